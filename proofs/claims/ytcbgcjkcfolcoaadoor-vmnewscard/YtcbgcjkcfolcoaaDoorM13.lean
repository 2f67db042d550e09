/-
  The document's table of instructions (three).
  The document's table of instructions (four).
-/
import Derived.Test.YtcbgcjkcfolcoaaDoorM12
namespace Go.Proofs.YtcbgcjkcfolcoaaDoor
open Go.RowKit

set_option maxRecDepth 100000 in
set_option maxHeartbeats 4000000 in
theorem ef_4 {w : World} {b : Nat} {m : PM} {vf vc vk : Value} {f : PF} {g3 g4 g5 : Option Addr} {p3 p4 p5 : Nat} (h : EffAsk w b m vf vc vk f g3 g4 g5 p3 p4 p5) (x y : Int) :
    Calls Tryd.prog 30 #[.pointer (some ⟨b, 0, none⟩), .agg #[.string f.name, .int .i64 f.params, .int .i64 f.slots, .slice g3 f.code.length p3, .slice g4 f.hands.length p4, .slice g5 f.vars.length p5], .agg #[.int .i64 4, .int .i64 x, .int .i64 y]] w fun e w' => EffPost m f ⟨4, x, y⟩ w e w' := by
  obtain ⟨hI, h1, h2, h3, h4, h5, h6⟩ := h
  obtain ⟨_, ⟨gf, cf, rfl, _, _⟩, _⟩ := hI.img.funcs
  obtain ⟨gc, cc, rfl, _, _⟩ := hI.img.consts
  obtain ⟨_, ⟨gk, ck, rfl, _, _⟩, _⟩ := hI.img.classes
  have c0 := cell_al3 hI.c0
  have c1 := cell_al3 hI.c1
  have c2 := cell_al3 hI.c2
  have H := hide hI
  have hmf := mkf
  clear hI
  obtain ⟨bf, qf⟩ : ∃ c, inB y 0 50 = c := ⟨_, rfl⟩
  obtain ⟨bs, qs⟩ : ∃ c, belowB x f.slots = c := ⟨_, rfl⟩
  obtain ⟨ba, qa⟩ : ∃ c, belowB x f.code.length = c := ⟨_, rfl⟩
  obtain ⟨bn, qn⟩ : ∃ c, callB m x = c := ⟨_, rfl⟩
  go_enter Tryd.func30, Tryd.ntmps30
  go_wp2_with fail
  refine (within_is qf _).mono ?_
  rintro e wa ⟨rfl, rfl⟩
  go_wp2_with fail
  refine (within_bl qs _).mono ?_
  rintro e wa ⟨rfl, rfl⟩
  go_wp2_with fail
  refine (within_bl qa _).mono ?_
  rintro e wa ⟨rfl, rfl⟩
  go_wp2_with fail
  go_quiet ((go_at_call 17; exact Calls.quiet_of_same (same_back (within_cl qn _))))
  go_wp2_with fail
  exact bodyPost_ret (v := .tuple #[.bool true, .int .i64 0, .int .i64 1, .int .i64 (-1), .int .i64 0, .bool true]) (by simp [results, Tryd.results30, go_sem]) rfl (EffPost.mk rfl (fun _ => rfl) ⟨rfl, rfl, rfl, rfl⟩ (below3 _ _ _ _))

set_option maxRecDepth 100000 in
set_option maxHeartbeats 4000000 in
theorem ef_14 {w : World} {b : Nat} {m : PM} {vf vc vk : Value} {f : PF} {g3 g4 g5 : Option Addr} {p3 p4 p5 : Nat} (h : EffAsk w b m vf vc vk f g3 g4 g5 p3 p4 p5) (x y : Int) :
    Calls Tryd.prog 30 #[.pointer (some ⟨b, 0, none⟩), .agg #[.string f.name, .int .i64 f.params, .int .i64 f.slots, .slice g3 f.code.length p3, .slice g4 f.hands.length p4, .slice g5 f.vars.length p5], .agg #[.int .i64 14, .int .i64 x, .int .i64 y]] w fun e w' => EffPost m f ⟨14, x, y⟩ w e w' := by
  obtain ⟨hI, h1, h2, h3, h4, h5, h6⟩ := h
  obtain ⟨_, ⟨gf, cf, rfl, _, _⟩, _⟩ := hI.img.funcs
  obtain ⟨gc, cc, rfl, _, _⟩ := hI.img.consts
  obtain ⟨_, ⟨gk, ck, rfl, _, _⟩, _⟩ := hI.img.classes
  have c0 := cell_al3 hI.c0
  have c1 := cell_al3 hI.c1
  have c2 := cell_al3 hI.c2
  have H := hide hI
  have hmf := mkf
  clear hI
  obtain ⟨bf, qf⟩ : ∃ c, inB y 0 50 = c := ⟨_, rfl⟩
  obtain ⟨bs, qs⟩ : ∃ c, belowB x f.slots = c := ⟨_, rfl⟩
  obtain ⟨ba, qa⟩ : ∃ c, belowB x f.code.length = c := ⟨_, rfl⟩
  obtain ⟨bn, qn⟩ : ∃ c, callB m x = c := ⟨_, rfl⟩
  go_enter Tryd.func30, Tryd.ntmps30
  go_wp2_with fail
  refine (within_is qf _).mono ?_
  rintro e wa ⟨rfl, rfl⟩
  go_wp2_with fail
  refine (within_bl qs _).mono ?_
  rintro e wa ⟨rfl, rfl⟩
  go_wp2_with fail
  refine (within_bl qa _).mono ?_
  rintro e wa ⟨rfl, rfl⟩
  go_wp2_with fail
  go_quiet ((go_at_call 17; exact Calls.quiet_of_same (same_back (within_cl qn _))))
  go_wp2_with fail
  exact bodyPost_ret (v := .tuple #[.bool true, .int .i64 1, .int .i64 0, .int .i64 (-1), .int .i64 0, .bool true]) (by simp [results, Tryd.results30, go_sem]) rfl (EffPost.mk rfl (fun _ => rfl) ⟨rfl, rfl, rfl, rfl⟩ (below3 _ _ _ _))

set_option maxRecDepth 100000 in
set_option maxHeartbeats 4000000 in
theorem ef_20 {w : World} {b : Nat} {m : PM} {vf vc vk : Value} {f : PF} {g3 g4 g5 : Option Addr} {p3 p4 p5 : Nat} (h : EffAsk w b m vf vc vk f g3 g4 g5 p3 p4 p5) (x y : Int) :
    Calls Tryd.prog 30 #[.pointer (some ⟨b, 0, none⟩), .agg #[.string f.name, .int .i64 f.params, .int .i64 f.slots, .slice g3 f.code.length p3, .slice g4 f.hands.length p4, .slice g5 f.vars.length p5], .agg #[.int .i64 20, .int .i64 x, .int .i64 y]] w fun e w' => EffPost m f ⟨20, x, y⟩ w e w' := by
  obtain ⟨hI, h1, h2, h3, h4, h5, h6⟩ := h
  obtain ⟨_, ⟨gf, cf, rfl, _, _⟩, _⟩ := hI.img.funcs
  obtain ⟨gc, cc, rfl, _, _⟩ := hI.img.consts
  obtain ⟨_, ⟨gk, ck, rfl, _, _⟩, _⟩ := hI.img.classes
  have c0 := cell_al3 hI.c0
  have c1 := cell_al3 hI.c1
  have c2 := cell_al3 hI.c2
  have H := hide hI
  have hmf := mkf
  clear hI
  obtain ⟨bf, qf⟩ : ∃ c, inB y 0 50 = c := ⟨_, rfl⟩
  obtain ⟨bs, qs⟩ : ∃ c, belowB x f.slots = c := ⟨_, rfl⟩
  obtain ⟨ba, qa⟩ : ∃ c, belowB x f.code.length = c := ⟨_, rfl⟩
  obtain ⟨bn, qn⟩ : ∃ c, callB m x = c := ⟨_, rfl⟩
  go_enter Tryd.func30, Tryd.ntmps30
  go_wp2_with fail
  refine (within_is qf _).mono ?_
  rintro e wa ⟨rfl, rfl⟩
  go_wp2_with fail
  refine (within_bl qs _).mono ?_
  rintro e wa ⟨rfl, rfl⟩
  go_wp2_with fail
  refine (within_bl qa _).mono ?_
  rintro e wa ⟨rfl, rfl⟩
  go_wp2_with fail
  go_quiet ((go_at_call 17; exact Calls.quiet_of_same (same_back (within_cl qn _))))
  go_wp2_with fail
  exact bodyPost_ret (v := .tuple #[.bool true, .int .i64 1, .int .i64 1, .int .i64 (-1), .int .i64 0, .bool true]) (by simp [results, Tryd.results30, go_sem]) rfl (EffPost.mk rfl (fun _ => rfl) ⟨rfl, rfl, rfl, rfl⟩ (below3 _ _ _ _))

set_option maxRecDepth 100000 in
set_option maxHeartbeats 4000000 in
theorem ef_22 {w : World} {b : Nat} {m : PM} {vf vc vk : Value} {f : PF} {g3 g4 g5 : Option Addr} {p3 p4 p5 : Nat} (h : EffAsk w b m vf vc vk f g3 g4 g5 p3 p4 p5) (x y : Int) :
    Calls Tryd.prog 30 #[.pointer (some ⟨b, 0, none⟩), .agg #[.string f.name, .int .i64 f.params, .int .i64 f.slots, .slice g3 f.code.length p3, .slice g4 f.hands.length p4, .slice g5 f.vars.length p5], .agg #[.int .i64 22, .int .i64 x, .int .i64 y]] w fun e w' => EffPost m f ⟨22, x, y⟩ w e w' := by
  obtain ⟨hI, h1, h2, h3, h4, h5, h6⟩ := h
  obtain ⟨_, ⟨gf, cf, rfl, _, _⟩, _⟩ := hI.img.funcs
  obtain ⟨gc, cc, rfl, _, _⟩ := hI.img.consts
  obtain ⟨_, ⟨gk, ck, rfl, _, _⟩, _⟩ := hI.img.classes
  have c0 := cell_al3 hI.c0
  have c1 := cell_al3 hI.c1
  have c2 := cell_al3 hI.c2
  have H := hide hI
  have hmf := mkf
  clear hI
  obtain ⟨bf, qf⟩ : ∃ c, inB y 0 50 = c := ⟨_, rfl⟩
  obtain ⟨bs, qs⟩ : ∃ c, belowB x f.slots = c := ⟨_, rfl⟩
  obtain ⟨ba, qa⟩ : ∃ c, belowB x f.code.length = c := ⟨_, rfl⟩
  obtain ⟨bn, qn⟩ : ∃ c, callB m x = c := ⟨_, rfl⟩
  go_enter Tryd.func30, Tryd.ntmps30
  go_wp2_with fail
  refine (within_is qf _).mono ?_
  rintro e wa ⟨rfl, rfl⟩
  go_wp2_with fail
  refine (within_bl qs _).mono ?_
  rintro e wa ⟨rfl, rfl⟩
  go_wp2_with fail
  refine (within_bl qa _).mono ?_
  rintro e wa ⟨rfl, rfl⟩
  go_wp2_with fail
  go_quiet ((go_at_call 17; exact Calls.quiet_of_same (same_back (within_cl qn _))))
  go_wp2_with fail
  exact bodyPost_ret (v := .tuple #[.bool true, .int .i64 2, .int .i64 1, .int .i64 (-1), .int .i64 0, .bool true]) (by simp [results, Tryd.results30, go_sem]) rfl (EffPost.mk rfl (fun _ => rfl) ⟨rfl, rfl, rfl, rfl⟩ (below3 _ _ _ _))

set_option maxRecDepth 100000 in
set_option maxHeartbeats 4000000 in
theorem ef_24 {w : World} {b : Nat} {m : PM} {vf vc vk : Value} {f : PF} {g3 g4 g5 : Option Addr} {p3 p4 p5 : Nat} (h : EffAsk w b m vf vc vk f g3 g4 g5 p3 p4 p5) (x y : Int) :
    Calls Tryd.prog 30 #[.pointer (some ⟨b, 0, none⟩), .agg #[.string f.name, .int .i64 f.params, .int .i64 f.slots, .slice g3 f.code.length p3, .slice g4 f.hands.length p4, .slice g5 f.vars.length p5], .agg #[.int .i64 24, .int .i64 x, .int .i64 y]] w fun e w' => EffPost m f ⟨24, x, y⟩ w e w' := by
  obtain ⟨hI, h1, h2, h3, h4, h5, h6⟩ := h
  obtain ⟨_, ⟨gf, cf, rfl, _, _⟩, _⟩ := hI.img.funcs
  obtain ⟨gc, cc, rfl, _, _⟩ := hI.img.consts
  obtain ⟨_, ⟨gk, ck, rfl, _, _⟩, _⟩ := hI.img.classes
  have c0 := cell_al3 hI.c0
  have c1 := cell_al3 hI.c1
  have c2 := cell_al3 hI.c2
  have H := hide hI
  have hmf := mkf
  clear hI
  obtain ⟨bf, qf⟩ : ∃ c, inB y 0 50 = c := ⟨_, rfl⟩
  obtain ⟨bs, qs⟩ : ∃ c, belowB x f.slots = c := ⟨_, rfl⟩
  obtain ⟨ba, qa⟩ : ∃ c, belowB x f.code.length = c := ⟨_, rfl⟩
  obtain ⟨bn, qn⟩ : ∃ c, callB m x = c := ⟨_, rfl⟩
  go_enter Tryd.func30, Tryd.ntmps30
  go_wp2_with fail
  refine (within_is qf _).mono ?_
  rintro e wa ⟨rfl, rfl⟩
  go_wp2_with fail
  refine (within_bl qs _).mono ?_
  rintro e wa ⟨rfl, rfl⟩
  go_wp2_with fail
  refine (within_bl qa _).mono ?_
  rintro e wa ⟨rfl, rfl⟩
  go_wp2_with fail
  go_quiet ((go_at_call 17; exact Calls.quiet_of_same (same_back (within_cl qn _))))
  go_wp2_with fail
  exact bodyPost_ret (v := .tuple #[.bool true, .int .i64 2, .int .i64 1, .int .i64 (-1), .int .i64 0, .bool true]) (by simp [results, Tryd.results30, go_sem]) rfl (EffPost.mk rfl (fun _ => rfl) ⟨rfl, rfl, rfl, rfl⟩ (below3 _ _ _ _))

set_option maxRecDepth 100000 in
set_option maxHeartbeats 4000000 in
theorem ef_26 {w : World} {b : Nat} {m : PM} {vf vc vk : Value} {f : PF} {g3 g4 g5 : Option Addr} {p3 p4 p5 : Nat} (h : EffAsk w b m vf vc vk f g3 g4 g5 p3 p4 p5) (x y : Int) :
    Calls Tryd.prog 30 #[.pointer (some ⟨b, 0, none⟩), .agg #[.string f.name, .int .i64 f.params, .int .i64 f.slots, .slice g3 f.code.length p3, .slice g4 f.hands.length p4, .slice g5 f.vars.length p5], .agg #[.int .i64 26, .int .i64 x, .int .i64 y]] w fun e w' => EffPost m f ⟨26, x, y⟩ w e w' := by
  obtain ⟨hI, h1, h2, h3, h4, h5, h6⟩ := h
  obtain ⟨_, ⟨gf, cf, rfl, _, _⟩, _⟩ := hI.img.funcs
  obtain ⟨gc, cc, rfl, _, _⟩ := hI.img.consts
  obtain ⟨_, ⟨gk, ck, rfl, _, _⟩, _⟩ := hI.img.classes
  have c0 := cell_al3 hI.c0
  have c1 := cell_al3 hI.c1
  have c2 := cell_al3 hI.c2
  have H := hide hI
  have hmf := mkf
  clear hI
  obtain ⟨bf, qf⟩ : ∃ c, inB y 0 50 = c := ⟨_, rfl⟩
  obtain ⟨bs, qs⟩ : ∃ c, belowB x f.slots = c := ⟨_, rfl⟩
  obtain ⟨ba, qa⟩ : ∃ c, belowB x f.code.length = c := ⟨_, rfl⟩
  obtain ⟨bn, qn⟩ : ∃ c, callB m x = c := ⟨_, rfl⟩
  go_enter Tryd.func30, Tryd.ntmps30
  go_wp2_with fail
  refine (within_is qf _).mono ?_
  rintro e wa ⟨rfl, rfl⟩
  go_wp2_with fail
  refine (within_bl qs _).mono ?_
  rintro e wa ⟨rfl, rfl⟩
  go_wp2_with fail
  refine (within_bl qa _).mono ?_
  rintro e wa ⟨rfl, rfl⟩
  go_wp2_with fail
  go_quiet ((go_at_call 17; exact Calls.quiet_of_same (same_back (within_cl qn _))))
  go_wp2_with fail
  exact bodyPost_ret (v := .tuple #[.bool true, .int .i64 2, .int .i64 1, .int .i64 (-1), .int .i64 0, .bool true]) (by simp [results, Tryd.results30, go_sem]) rfl (EffPost.mk rfl (fun _ => rfl) ⟨rfl, rfl, rfl, rfl⟩ (below3 _ _ _ _))

set_option maxRecDepth 100000 in
set_option maxHeartbeats 4000000 in
theorem ef_28 {w : World} {b : Nat} {m : PM} {vf vc vk : Value} {f : PF} {g3 g4 g5 : Option Addr} {p3 p4 p5 : Nat} (h : EffAsk w b m vf vc vk f g3 g4 g5 p3 p4 p5) (x y : Int) :
    Calls Tryd.prog 30 #[.pointer (some ⟨b, 0, none⟩), .agg #[.string f.name, .int .i64 f.params, .int .i64 f.slots, .slice g3 f.code.length p3, .slice g4 f.hands.length p4, .slice g5 f.vars.length p5], .agg #[.int .i64 28, .int .i64 x, .int .i64 y]] w fun e w' => EffPost m f ⟨28, x, y⟩ w e w' := by
  obtain ⟨hI, h1, h2, h3, h4, h5, h6⟩ := h
  obtain ⟨_, ⟨gf, cf, rfl, _, _⟩, _⟩ := hI.img.funcs
  obtain ⟨gc, cc, rfl, _, _⟩ := hI.img.consts
  obtain ⟨_, ⟨gk, ck, rfl, _, _⟩, _⟩ := hI.img.classes
  have c0 := cell_al3 hI.c0
  have c1 := cell_al3 hI.c1
  have c2 := cell_al3 hI.c2
  have H := hide hI
  have hmf := mkf
  clear hI
  obtain ⟨bf, qf⟩ : ∃ c, inB y 0 50 = c := ⟨_, rfl⟩
  obtain ⟨bs, qs⟩ : ∃ c, belowB x f.slots = c := ⟨_, rfl⟩
  obtain ⟨ba, qa⟩ : ∃ c, belowB x f.code.length = c := ⟨_, rfl⟩
  obtain ⟨bn, qn⟩ : ∃ c, callB m x = c := ⟨_, rfl⟩
  go_enter Tryd.func30, Tryd.ntmps30
  go_wp2_with fail
  refine (within_is qf _).mono ?_
  rintro e wa ⟨rfl, rfl⟩
  go_wp2_with fail
  refine (within_bl qs _).mono ?_
  rintro e wa ⟨rfl, rfl⟩
  go_wp2_with fail
  refine (within_bl qa _).mono ?_
  rintro e wa ⟨rfl, rfl⟩
  go_wp2_with fail
  go_quiet ((go_at_call 17; exact Calls.quiet_of_same (same_back (within_cl qn _))))
  go_wp2_with fail
  exact bodyPost_ret (v := .tuple #[.bool true, .int .i64 2, .int .i64 1, .int .i64 (-1), .int .i64 0, .bool true]) (by simp [results, Tryd.results30, go_sem]) rfl (EffPost.mk rfl (fun _ => rfl) ⟨rfl, rfl, rfl, rfl⟩ (below3 _ _ _ _))

set_option maxRecDepth 100000 in
set_option maxHeartbeats 4000000 in
theorem ef_31 {w : World} {b : Nat} {m : PM} {vf vc vk : Value} {f : PF} {g3 g4 g5 : Option Addr} {p3 p4 p5 : Nat} (h : EffAsk w b m vf vc vk f g3 g4 g5 p3 p4 p5) (x y : Int) :
    Calls Tryd.prog 30 #[.pointer (some ⟨b, 0, none⟩), .agg #[.string f.name, .int .i64 f.params, .int .i64 f.slots, .slice g3 f.code.length p3, .slice g4 f.hands.length p4, .slice g5 f.vars.length p5], .agg #[.int .i64 31, .int .i64 x, .int .i64 y]] w fun e w' => EffPost m f ⟨31, x, y⟩ w e w' := by
  obtain ⟨hI, h1, h2, h3, h4, h5, h6⟩ := h
  obtain ⟨_, ⟨gf, cf, rfl, _, _⟩, _⟩ := hI.img.funcs
  obtain ⟨gc, cc, rfl, _, _⟩ := hI.img.consts
  obtain ⟨_, ⟨gk, ck, rfl, _, _⟩, _⟩ := hI.img.classes
  have c0 := cell_al3 hI.c0
  have c1 := cell_al3 hI.c1
  have c2 := cell_al3 hI.c2
  have H := hide hI
  have hmf := mkf
  clear hI
  obtain ⟨bf, qf⟩ : ∃ c, inB y 0 50 = c := ⟨_, rfl⟩
  obtain ⟨bs, qs⟩ : ∃ c, belowB x f.slots = c := ⟨_, rfl⟩
  obtain ⟨ba, qa⟩ : ∃ c, belowB x f.code.length = c := ⟨_, rfl⟩
  obtain ⟨bn, qn⟩ : ∃ c, callB m x = c := ⟨_, rfl⟩
  go_enter Tryd.func30, Tryd.ntmps30
  go_wp2_with fail
  refine (within_is qf _).mono ?_
  rintro e wa ⟨rfl, rfl⟩
  go_wp2_with fail
  refine (within_bl qs _).mono ?_
  rintro e wa ⟨rfl, rfl⟩
  go_wp2_with fail
  refine (within_bl qa _).mono ?_
  rintro e wa ⟨rfl, rfl⟩
  go_wp2_with fail
  go_quiet ((go_at_call 17; exact Calls.quiet_of_same (same_back (within_cl qn _))))
  go_wp2_with fail
  exact bodyPost_ret (v := .tuple #[.bool true, .int .i64 3, .int .i64 0, .int .i64 (-1), .int .i64 0, .bool true]) (by simp [results, Tryd.results30, go_sem]) rfl (EffPost.mk rfl (fun _ => rfl) ⟨rfl, rfl, rfl, rfl⟩ (below3 _ _ _ _))

set_option maxRecDepth 100000 in
set_option maxHeartbeats 4000000 in
theorem ef_41 {w : World} {b : Nat} {m : PM} {vf vc vk : Value} {f : PF} {g3 g4 g5 : Option Addr} {p3 p4 p5 : Nat} (h : EffAsk w b m vf vc vk f g3 g4 g5 p3 p4 p5) (x y : Int) :
    Calls Tryd.prog 30 #[.pointer (some ⟨b, 0, none⟩), .agg #[.string f.name, .int .i64 f.params, .int .i64 f.slots, .slice g3 f.code.length p3, .slice g4 f.hands.length p4, .slice g5 f.vars.length p5], .agg #[.int .i64 41, .int .i64 x, .int .i64 y]] w fun e w' => EffPost m f ⟨41, x, y⟩ w e w' := by
  obtain ⟨hI, h1, h2, h3, h4, h5, h6⟩ := h
  obtain ⟨_, ⟨gf, cf, rfl, _, _⟩, _⟩ := hI.img.funcs
  obtain ⟨gc, cc, rfl, _, _⟩ := hI.img.consts
  obtain ⟨_, ⟨gk, ck, rfl, _, _⟩, _⟩ := hI.img.classes
  have c0 := cell_al3 hI.c0
  have c1 := cell_al3 hI.c1
  have c2 := cell_al3 hI.c2
  have H := hide hI
  have hmf := mkf
  clear hI
  obtain ⟨bf, qf⟩ : ∃ c, inB y 0 50 = c := ⟨_, rfl⟩
  obtain ⟨bs, qs⟩ : ∃ c, belowB x f.slots = c := ⟨_, rfl⟩
  obtain ⟨ba, qa⟩ : ∃ c, belowB x f.code.length = c := ⟨_, rfl⟩
  obtain ⟨bn, qn⟩ : ∃ c, callB m x = c := ⟨_, rfl⟩
  go_enter Tryd.func30, Tryd.ntmps30
  go_wp2_with fail
  refine (within_is qf _).mono ?_
  rintro e wa ⟨rfl, rfl⟩
  go_wp2_with fail
  refine (within_bl qs _).mono ?_
  rintro e wa ⟨rfl, rfl⟩
  go_wp2_with fail
  refine (within_bl qa _).mono ?_
  rintro e wa ⟨rfl, rfl⟩
  go_wp2_with fail
  go_quiet ((go_at_call 17; exact Calls.quiet_of_same (same_back (within_cl qn _))))
  go_wp2_with fail
  exact bodyPost_ret (v := .tuple #[.bool true, .int .i64 1, .int .i64 0, .int .i64 (-1), .int .i64 0, .bool false]) (by simp [results, Tryd.results30, go_sem]) rfl (EffPost.mk rfl (fun _ => rfl) ⟨rfl, rfl, rfl, rfl⟩ (below3 _ _ _ _))

set_option maxRecDepth 100000 in
set_option maxHeartbeats 4000000 in
theorem ef_43 {w : World} {b : Nat} {m : PM} {vf vc vk : Value} {f : PF} {g3 g4 g5 : Option Addr} {p3 p4 p5 : Nat} (h : EffAsk w b m vf vc vk f g3 g4 g5 p3 p4 p5) (x y : Int) :
    Calls Tryd.prog 30 #[.pointer (some ⟨b, 0, none⟩), .agg #[.string f.name, .int .i64 f.params, .int .i64 f.slots, .slice g3 f.code.length p3, .slice g4 f.hands.length p4, .slice g5 f.vars.length p5], .agg #[.int .i64 43, .int .i64 x, .int .i64 y]] w fun e w' => EffPost m f ⟨43, x, y⟩ w e w' := by
  obtain ⟨hI, h1, h2, h3, h4, h5, h6⟩ := h
  obtain ⟨_, ⟨gf, cf, rfl, _, _⟩, _⟩ := hI.img.funcs
  obtain ⟨gc, cc, rfl, _, _⟩ := hI.img.consts
  obtain ⟨_, ⟨gk, ck, rfl, _, _⟩, _⟩ := hI.img.classes
  have c0 := cell_al3 hI.c0
  have c1 := cell_al3 hI.c1
  have c2 := cell_al3 hI.c2
  have H := hide hI
  have hmf := mkf
  clear hI
  obtain ⟨bf, qf⟩ : ∃ c, inB y 0 50 = c := ⟨_, rfl⟩
  obtain ⟨bs, qs⟩ : ∃ c, belowB x f.slots = c := ⟨_, rfl⟩
  obtain ⟨ba, qa⟩ : ∃ c, belowB x f.code.length = c := ⟨_, rfl⟩
  obtain ⟨bn, qn⟩ : ∃ c, callB m x = c := ⟨_, rfl⟩
  go_enter Tryd.func30, Tryd.ntmps30
  go_wp2_with fail
  refine (within_is qf _).mono ?_
  rintro e wa ⟨rfl, rfl⟩
  go_wp2_with fail
  refine (within_bl qs _).mono ?_
  rintro e wa ⟨rfl, rfl⟩
  go_wp2_with fail
  refine (within_bl qa _).mono ?_
  rintro e wa ⟨rfl, rfl⟩
  go_wp2_with fail
  go_quiet ((go_at_call 17; exact Calls.quiet_of_same (same_back (within_cl qn _))))
  go_wp2_with fail
  exact bodyPost_ret (v := .tuple #[.bool true, .int .i64 0, .int .i64 1, .int .i64 (-1), .int .i64 0, .bool true]) (by simp [results, Tryd.results30, go_sem]) rfl (EffPost.mk rfl (fun _ => rfl) ⟨rfl, rfl, rfl, rfl⟩ (below3 _ _ _ _))

set_option maxRecDepth 100000 in
set_option maxHeartbeats 4000000 in
theorem ef_45 {w : World} {b : Nat} {m : PM} {vf vc vk : Value} {f : PF} {g3 g4 g5 : Option Addr} {p3 p4 p5 : Nat} (h : EffAsk w b m vf vc vk f g3 g4 g5 p3 p4 p5) (x y : Int) :
    Calls Tryd.prog 30 #[.pointer (some ⟨b, 0, none⟩), .agg #[.string f.name, .int .i64 f.params, .int .i64 f.slots, .slice g3 f.code.length p3, .slice g4 f.hands.length p4, .slice g5 f.vars.length p5], .agg #[.int .i64 45, .int .i64 x, .int .i64 y]] w fun e w' => EffPost m f ⟨45, x, y⟩ w e w' := by
  obtain ⟨hI, h1, h2, h3, h4, h5, h6⟩ := h
  obtain ⟨_, ⟨gf, cf, rfl, _, _⟩, _⟩ := hI.img.funcs
  obtain ⟨gc, cc, rfl, _, _⟩ := hI.img.consts
  obtain ⟨_, ⟨gk, ck, rfl, _, _⟩, _⟩ := hI.img.classes
  have c0 := cell_al3 hI.c0
  have c1 := cell_al3 hI.c1
  have c2 := cell_al3 hI.c2
  have H := hide hI
  have hmf := mkf
  clear hI
  obtain ⟨bf, qf⟩ : ∃ c, inB y 0 50 = c := ⟨_, rfl⟩
  obtain ⟨bs, qs⟩ : ∃ c, belowB x f.slots = c := ⟨_, rfl⟩
  obtain ⟨ba, qa⟩ : ∃ c, belowB x f.code.length = c := ⟨_, rfl⟩
  obtain ⟨bn, qn⟩ : ∃ c, callB m x = c := ⟨_, rfl⟩
  go_enter Tryd.func30, Tryd.ntmps30
  go_wp2_with fail
  refine (within_is qf _).mono ?_
  rintro e wa ⟨rfl, rfl⟩
  go_wp2_with fail
  refine (within_bl qs _).mono ?_
  rintro e wa ⟨rfl, rfl⟩
  go_wp2_with fail
  refine (within_bl qa _).mono ?_
  rintro e wa ⟨rfl, rfl⟩
  go_wp2_with fail
  go_quiet ((go_at_call 17; exact Calls.quiet_of_same (same_back (within_cl qn _))))
  go_wp2_with fail
  exact bodyPost_ret (v := .tuple #[.bool true, .int .i64 0, .int .i64 0, .int .i64 (-1), .int .i64 0, .bool true]) (by simp [results, Tryd.results30, go_sem]) rfl (EffPost.mk rfl (fun _ => rfl) ⟨rfl, rfl, rfl, rfl⟩ (below3 _ _ _ _))
end Go.Proofs.YtcbgcjkcfolcoaaDoor

namespace Go.Proofs.YtcbgcjkcfolcoaaDoor
open Go.RowKit

set_option maxRecDepth 100000 in
set_option maxHeartbeats 4000000 in
theorem ef_6 {w : World} {b : Nat} {m : PM} {vf vc vk : Value} {f : PF} {g3 g4 g5 : Option Addr} {p3 p4 p5 : Nat} (h : EffAsk w b m vf vc vk f g3 g4 g5 p3 p4 p5) (x y : Int) :
    Calls Tryd.prog 30 #[.pointer (some ⟨b, 0, none⟩), .agg #[.string f.name, .int .i64 f.params, .int .i64 f.slots, .slice g3 f.code.length p3, .slice g4 f.hands.length p4, .slice g5 f.vars.length p5], .agg #[.int .i64 6, .int .i64 x, .int .i64 y]] w fun e w' => EffPost m f ⟨6, x, y⟩ w e w' := by
  obtain ⟨hI, h1, h2, h3, h4, h5, h6⟩ := h
  obtain ⟨_, ⟨gf, cf, rfl, _, _⟩, _⟩ := hI.img.funcs
  obtain ⟨gc, cc, rfl, _, _⟩ := hI.img.consts
  obtain ⟨_, ⟨gk, ck, rfl, _, _⟩, _⟩ := hI.img.classes
  have c0 := cell_al3 hI.c0
  have c1 := cell_al3 hI.c1
  have c2 := cell_al3 hI.c2
  have H := hide hI
  have hmf := mkf
  clear hI
  obtain ⟨bf, qf⟩ : ∃ c, inB y 0 50 = c := ⟨_, rfl⟩
  obtain ⟨bs, qs⟩ : ∃ c, belowB x f.slots = c := ⟨_, rfl⟩
  obtain ⟨ba, qa⟩ : ∃ c, belowB x f.code.length = c := ⟨_, rfl⟩
  obtain ⟨bn, qn⟩ : ∃ c, callB m x = c := ⟨_, rfl⟩
  go_enter Tryd.func30, Tryd.ntmps30
  go_wp2_with fail
  refine (within_is qf _).mono ?_
  rintro e wa ⟨rfl, rfl⟩
  go_wp2_with fail
  refine (within_bl qs _).mono ?_
  rintro e wa ⟨rfl, rfl⟩
  go_wp2_with fail
  refine (within_bl qa _).mono ?_
  rintro e wa ⟨rfl, rfl⟩
  go_wp2_with fail
  go_quiet ((go_at_call 17; exact Calls.quiet_of_same (same_back (within_cl qn _))))
  go_wp2_with fail
  exact bodyPost_ret (v := .tuple #[.bool bs, .int .i64 0, .int .i64 1, .int .i64 (-1), .int .i64 0, .bool true]) (by simp [results, Tryd.results30, go_sem]) rfl (EffPost.mk qs.symm (fun _ => rfl) ⟨rfl, rfl, rfl, rfl⟩ (below3 _ _ _ _))

set_option maxRecDepth 100000 in
set_option maxHeartbeats 4000000 in
theorem ef_9 {w : World} {b : Nat} {m : PM} {vf vc vk : Value} {f : PF} {g3 g4 g5 : Option Addr} {p3 p4 p5 : Nat} (h : EffAsk w b m vf vc vk f g3 g4 g5 p3 p4 p5) (x y : Int) :
    Calls Tryd.prog 30 #[.pointer (some ⟨b, 0, none⟩), .agg #[.string f.name, .int .i64 f.params, .int .i64 f.slots, .slice g3 f.code.length p3, .slice g4 f.hands.length p4, .slice g5 f.vars.length p5], .agg #[.int .i64 9, .int .i64 x, .int .i64 y]] w fun e w' => EffPost m f ⟨9, x, y⟩ w e w' := by
  obtain ⟨hI, h1, h2, h3, h4, h5, h6⟩ := h
  obtain ⟨_, ⟨gf, cf, rfl, _, _⟩, _⟩ := hI.img.funcs
  obtain ⟨gc, cc, rfl, _, _⟩ := hI.img.consts
  obtain ⟨_, ⟨gk, ck, rfl, _, _⟩, _⟩ := hI.img.classes
  have c0 := cell_al3 hI.c0
  have c1 := cell_al3 hI.c1
  have c2 := cell_al3 hI.c2
  have H := hide hI
  have hmf := mkf
  clear hI
  obtain ⟨bf, qf⟩ : ∃ c, inB y 0 50 = c := ⟨_, rfl⟩
  obtain ⟨bs, qs⟩ : ∃ c, belowB x f.slots = c := ⟨_, rfl⟩
  obtain ⟨ba, qa⟩ : ∃ c, belowB x f.code.length = c := ⟨_, rfl⟩
  obtain ⟨bn, qn⟩ : ∃ c, callB m x = c := ⟨_, rfl⟩
  go_enter Tryd.func30, Tryd.ntmps30
  go_wp2_with fail
  refine (within_is qf _).mono ?_
  rintro e wa ⟨rfl, rfl⟩
  go_wp2_with fail
  refine (within_bl qs _).mono ?_
  rintro e wa ⟨rfl, rfl⟩
  go_wp2_with fail
  refine (within_bl qa _).mono ?_
  rintro e wa ⟨rfl, rfl⟩
  go_wp2_with fail
  go_quiet ((go_at_call 17; exact Calls.quiet_of_same (same_back (within_cl qn _))))
  go_wp2_with fail
  exact bodyPost_ret (v := .tuple #[.bool bs, .int .i64 0, .int .i64 1, .int .i64 (-1), .int .i64 0, .bool true]) (by simp [results, Tryd.results30, go_sem]) rfl (EffPost.mk qs.symm (fun _ => rfl) ⟨rfl, rfl, rfl, rfl⟩ (below3 _ _ _ _))

set_option maxRecDepth 100000 in
set_option maxHeartbeats 4000000 in
theorem ef_7 {w : World} {b : Nat} {m : PM} {vf vc vk : Value} {f : PF} {g3 g4 g5 : Option Addr} {p3 p4 p5 : Nat} (h : EffAsk w b m vf vc vk f g3 g4 g5 p3 p4 p5) (x y : Int) :
    Calls Tryd.prog 30 #[.pointer (some ⟨b, 0, none⟩), .agg #[.string f.name, .int .i64 f.params, .int .i64 f.slots, .slice g3 f.code.length p3, .slice g4 f.hands.length p4, .slice g5 f.vars.length p5], .agg #[.int .i64 7, .int .i64 x, .int .i64 y]] w fun e w' => EffPost m f ⟨7, x, y⟩ w e w' := by
  obtain ⟨hI, h1, h2, h3, h4, h5, h6⟩ := h
  obtain ⟨_, ⟨gf, cf, rfl, _, _⟩, _⟩ := hI.img.funcs
  obtain ⟨gc, cc, rfl, _, _⟩ := hI.img.consts
  obtain ⟨_, ⟨gk, ck, rfl, _, _⟩, _⟩ := hI.img.classes
  have c0 := cell_al3 hI.c0
  have c1 := cell_al3 hI.c1
  have c2 := cell_al3 hI.c2
  have H := hide hI
  have hmf := mkf
  clear hI
  obtain ⟨bf, qf⟩ : ∃ c, inB y 0 50 = c := ⟨_, rfl⟩
  obtain ⟨bs, qs⟩ : ∃ c, belowB x f.slots = c := ⟨_, rfl⟩
  obtain ⟨ba, qa⟩ : ∃ c, belowB x f.code.length = c := ⟨_, rfl⟩
  obtain ⟨bn, qn⟩ : ∃ c, callB m x = c := ⟨_, rfl⟩
  go_enter Tryd.func30, Tryd.ntmps30
  go_wp2_with fail
  refine (within_is qf _).mono ?_
  rintro e wa ⟨rfl, rfl⟩
  go_wp2_with fail
  refine (within_bl qs _).mono ?_
  rintro e wa ⟨rfl, rfl⟩
  go_wp2_with fail
  refine (within_bl qa _).mono ?_
  rintro e wa ⟨rfl, rfl⟩
  go_wp2_with fail
  go_quiet ((go_at_call 17; exact Calls.quiet_of_same (same_back (within_cl qn _))))
  go_wp2_with fail
  exact bodyPost_ret (v := .tuple #[.bool bs, .int .i64 1, .int .i64 0, .int .i64 (-1), .int .i64 0, .bool true]) (by simp [results, Tryd.results30, go_sem]) rfl (EffPost.mk qs.symm (fun _ => rfl) ⟨rfl, rfl, rfl, rfl⟩ (below3 _ _ _ _))

set_option maxRecDepth 100000 in
set_option maxHeartbeats 4000000 in
theorem ef_8 {w : World} {b : Nat} {m : PM} {vf vc vk : Value} {f : PF} {g3 g4 g5 : Option Addr} {p3 p4 p5 : Nat} (h : EffAsk w b m vf vc vk f g3 g4 g5 p3 p4 p5) (x y : Int) :
    Calls Tryd.prog 30 #[.pointer (some ⟨b, 0, none⟩), .agg #[.string f.name, .int .i64 f.params, .int .i64 f.slots, .slice g3 f.code.length p3, .slice g4 f.hands.length p4, .slice g5 f.vars.length p5], .agg #[.int .i64 8, .int .i64 x, .int .i64 y]] w fun e w' => EffPost m f ⟨8, x, y⟩ w e w' := by
  obtain ⟨hI, h1, h2, h3, h4, h5, h6⟩ := h
  obtain ⟨_, ⟨gf, cf, rfl, _, _⟩, _⟩ := hI.img.funcs
  obtain ⟨gc, cc, rfl, _, _⟩ := hI.img.consts
  obtain ⟨_, ⟨gk, ck, rfl, _, _⟩, _⟩ := hI.img.classes
  have c0 := cell_al3 hI.c0
  have c1 := cell_al3 hI.c1
  have c2 := cell_al3 hI.c2
  have H := hide hI
  have hmf := mkf
  clear hI
  obtain ⟨bf, qf⟩ : ∃ c, inB y 0 50 = c := ⟨_, rfl⟩
  obtain ⟨bs, qs⟩ : ∃ c, belowB x f.slots = c := ⟨_, rfl⟩
  obtain ⟨ba, qa⟩ : ∃ c, belowB x f.code.length = c := ⟨_, rfl⟩
  obtain ⟨bn, qn⟩ : ∃ c, callB m x = c := ⟨_, rfl⟩
  go_enter Tryd.func30, Tryd.ntmps30
  go_wp2_with fail
  refine (within_is qf _).mono ?_
  rintro e wa ⟨rfl, rfl⟩
  go_wp2_with fail
  refine (within_bl qs _).mono ?_
  rintro e wa ⟨rfl, rfl⟩
  go_wp2_with fail
  refine (within_bl qa _).mono ?_
  rintro e wa ⟨rfl, rfl⟩
  go_wp2_with fail
  go_quiet ((go_at_call 17; exact Calls.quiet_of_same (same_back (within_cl qn _))))
  go_wp2_with fail
  exact bodyPost_ret (v := .tuple #[.bool bs, .int .i64 1, .int .i64 0, .int .i64 (-1), .int .i64 0, .bool true]) (by simp [results, Tryd.results30, go_sem]) rfl (EffPost.mk qs.symm (fun _ => rfl) ⟨rfl, rfl, rfl, rfl⟩ (below3 _ _ _ _))

set_option maxRecDepth 100000 in
set_option maxHeartbeats 4000000 in
theorem ef_10 {w : World} {b : Nat} {m : PM} {vf vc vk : Value} {f : PF} {g3 g4 g5 : Option Addr} {p3 p4 p5 : Nat} (h : EffAsk w b m vf vc vk f g3 g4 g5 p3 p4 p5) (x y : Int) :
    Calls Tryd.prog 30 #[.pointer (some ⟨b, 0, none⟩), .agg #[.string f.name, .int .i64 f.params, .int .i64 f.slots, .slice g3 f.code.length p3, .slice g4 f.hands.length p4, .slice g5 f.vars.length p5], .agg #[.int .i64 10, .int .i64 x, .int .i64 y]] w fun e w' => EffPost m f ⟨10, x, y⟩ w e w' := by
  obtain ⟨hI, h1, h2, h3, h4, h5, h6⟩ := h
  obtain ⟨_, ⟨gf, cf, rfl, _, _⟩, _⟩ := hI.img.funcs
  obtain ⟨gc, cc, rfl, _, _⟩ := hI.img.consts
  obtain ⟨_, ⟨gk, ck, rfl, _, _⟩, _⟩ := hI.img.classes
  have c0 := cell_al3 hI.c0
  have c1 := cell_al3 hI.c1
  have c2 := cell_al3 hI.c2
  have H := hide hI
  have hmf := mkf
  clear hI
  obtain ⟨bf, qf⟩ : ∃ c, inB y 0 50 = c := ⟨_, rfl⟩
  obtain ⟨bs, qs⟩ : ∃ c, belowB x f.slots = c := ⟨_, rfl⟩
  obtain ⟨ba, qa⟩ : ∃ c, belowB x f.code.length = c := ⟨_, rfl⟩
  obtain ⟨bn, qn⟩ : ∃ c, callB m x = c := ⟨_, rfl⟩
  go_enter Tryd.func30, Tryd.ntmps30
  go_wp2_with fail
  refine (within_is qf _).mono ?_
  rintro e wa ⟨rfl, rfl⟩
  go_wp2_with fail
  refine (within_bl qs _).mono ?_
  rintro e wa ⟨rfl, rfl⟩
  go_wp2_with fail
  refine (within_bl qa _).mono ?_
  rintro e wa ⟨rfl, rfl⟩
  go_wp2_with fail
  go_quiet ((go_at_call 17; exact Calls.quiet_of_same (same_back (within_cl qn _))))
  go_wp2_with fail
  exact bodyPost_ret (v := .tuple #[.bool bs, .int .i64 1, .int .i64 0, .int .i64 (-1), .int .i64 0, .bool true]) (by simp [results, Tryd.results30, go_sem]) rfl (EffPost.mk qs.symm (fun _ => rfl) ⟨rfl, rfl, rfl, rfl⟩ (below3 _ _ _ _))

set_option maxRecDepth 100000 in
set_option maxHeartbeats 4000000 in
theorem ef_11 {w : World} {b : Nat} {m : PM} {vf vc vk : Value} {f : PF} {g3 g4 g5 : Option Addr} {p3 p4 p5 : Nat} (h : EffAsk w b m vf vc vk f g3 g4 g5 p3 p4 p5) (x y : Int) :
    Calls Tryd.prog 30 #[.pointer (some ⟨b, 0, none⟩), .agg #[.string f.name, .int .i64 f.params, .int .i64 f.slots, .slice g3 f.code.length p3, .slice g4 f.hands.length p4, .slice g5 f.vars.length p5], .agg #[.int .i64 11, .int .i64 x, .int .i64 y]] w fun e w' => EffPost m f ⟨11, x, y⟩ w e w' := by
  obtain ⟨hI, h1, h2, h3, h4, h5, h6⟩ := h
  obtain ⟨_, ⟨gf, cf, rfl, _, _⟩, _⟩ := hI.img.funcs
  obtain ⟨gc, cc, rfl, _, _⟩ := hI.img.consts
  obtain ⟨_, ⟨gk, ck, rfl, _, _⟩, _⟩ := hI.img.classes
  have c0 := cell_al3 hI.c0
  have c1 := cell_al3 hI.c1
  have c2 := cell_al3 hI.c2
  have H := hide hI
  have hmf := mkf
  clear hI
  obtain ⟨bf, qf⟩ : ∃ c, inB y 0 50 = c := ⟨_, rfl⟩
  obtain ⟨bs, qs⟩ : ∃ c, belowB x f.slots = c := ⟨_, rfl⟩
  obtain ⟨ba, qa⟩ : ∃ c, belowB x f.code.length = c := ⟨_, rfl⟩
  obtain ⟨bn, qn⟩ : ∃ c, callB m x = c := ⟨_, rfl⟩
  obtain ⟨bx, qx⟩ : ∃ c, inB x 0 50 = c := ⟨_, rfl⟩
  go_enter Tryd.func30, Tryd.ntmps30
  go_wp2_with fail
  refine (within_is qf _).mono ?_
  rintro e wa ⟨rfl, rfl⟩
  go_wp2_with fail
  refine (within_bl qs _).mono ?_
  rintro e wa ⟨rfl, rfl⟩
  go_wp2_with fail
  refine (within_bl qa _).mono ?_
  rintro e wa ⟨rfl, rfl⟩
  go_wp2_with fail
  go_quiet ((go_at_call 17; exact Calls.quiet_of_same (same_back (within_cl qn _))))
  go_wp2_with fail
  refine (within_is qx _).mono ?_
  rintro e wa ⟨rfl, rfl⟩
  go_wp2_with fail
  exact bodyPost_ret (v := .tuple #[.bool bx, .int .i64 0, .int .i64 1, .int .i64 (-1), .int .i64 0, .bool true]) (by simp [results, Tryd.results30, go_sem]) rfl (EffPost.mk qx.symm (fun _ => rfl) ⟨rfl, rfl, rfl, rfl⟩ (below3 _ _ _ _))

set_option maxRecDepth 100000 in
set_option maxHeartbeats 4000000 in
theorem ef_12 {w : World} {b : Nat} {m : PM} {vf vc vk : Value} {f : PF} {g3 g4 g5 : Option Addr} {p3 p4 p5 : Nat} (h : EffAsk w b m vf vc vk f g3 g4 g5 p3 p4 p5) (x y : Int) :
    Calls Tryd.prog 30 #[.pointer (some ⟨b, 0, none⟩), .agg #[.string f.name, .int .i64 f.params, .int .i64 f.slots, .slice g3 f.code.length p3, .slice g4 f.hands.length p4, .slice g5 f.vars.length p5], .agg #[.int .i64 12, .int .i64 x, .int .i64 y]] w fun e w' => EffPost m f ⟨12, x, y⟩ w e w' := by
  obtain ⟨hI, h1, h2, h3, h4, h5, h6⟩ := h
  obtain ⟨_, ⟨gf, cf, rfl, _, _⟩, _⟩ := hI.img.funcs
  obtain ⟨gc, cc, rfl, _, _⟩ := hI.img.consts
  obtain ⟨_, ⟨gk, ck, rfl, _, _⟩, _⟩ := hI.img.classes
  have c0 := cell_al3 hI.c0
  have c1 := cell_al3 hI.c1
  have c2 := cell_al3 hI.c2
  have H := hide hI
  have hmf := mkf
  clear hI
  obtain ⟨bf, qf⟩ : ∃ c, inB y 0 50 = c := ⟨_, rfl⟩
  obtain ⟨bs, qs⟩ : ∃ c, belowB x f.slots = c := ⟨_, rfl⟩
  obtain ⟨ba, qa⟩ : ∃ c, belowB x f.code.length = c := ⟨_, rfl⟩
  obtain ⟨bn, qn⟩ : ∃ c, callB m x = c := ⟨_, rfl⟩
  obtain ⟨bx, qx⟩ : ∃ c, inB x 0 50 = c := ⟨_, rfl⟩
  go_enter Tryd.func30, Tryd.ntmps30
  go_wp2_with fail
  refine (within_is qf _).mono ?_
  rintro e wa ⟨rfl, rfl⟩
  go_wp2_with fail
  refine (within_bl qs _).mono ?_
  rintro e wa ⟨rfl, rfl⟩
  go_wp2_with fail
  refine (within_bl qa _).mono ?_
  rintro e wa ⟨rfl, rfl⟩
  go_wp2_with fail
  go_quiet ((go_at_call 17; exact Calls.quiet_of_same (same_back (within_cl qn _))))
  go_wp2_with fail
  refine (within_is qx _).mono ?_
  rintro e wa ⟨rfl, rfl⟩
  go_wp2_with fail
  exact bodyPost_ret (v := .tuple #[.bool bx, .int .i64 0, .int .i64 1, .int .i64 (-1), .int .i64 0, .bool true]) (by simp [results, Tryd.results30, go_sem]) rfl (EffPost.mk qx.symm (fun _ => rfl) ⟨rfl, rfl, rfl, rfl⟩ (below3 _ _ _ _))

set_option maxRecDepth 100000 in
set_option maxHeartbeats 4000000 in
theorem ef_13 {w : World} {b : Nat} {m : PM} {vf vc vk : Value} {f : PF} {g3 g4 g5 : Option Addr} {p3 p4 p5 : Nat} (h : EffAsk w b m vf vc vk f g3 g4 g5 p3 p4 p5) (x y : Int) :
    Calls Tryd.prog 30 #[.pointer (some ⟨b, 0, none⟩), .agg #[.string f.name, .int .i64 f.params, .int .i64 f.slots, .slice g3 f.code.length p3, .slice g4 f.hands.length p4, .slice g5 f.vars.length p5], .agg #[.int .i64 13, .int .i64 x, .int .i64 y]] w fun e w' => EffPost m f ⟨13, x, y⟩ w e w' := by
  obtain ⟨hI, h1, h2, h3, h4, h5, h6⟩ := h
  obtain ⟨_, ⟨gf, cf, rfl, _, _⟩, _⟩ := hI.img.funcs
  obtain ⟨gc, cc, rfl, _, _⟩ := hI.img.consts
  obtain ⟨_, ⟨gk, ck, rfl, _, _⟩, _⟩ := hI.img.classes
  have c0 := cell_al3 hI.c0
  have c1 := cell_al3 hI.c1
  have c2 := cell_al3 hI.c2
  have H := hide hI
  have hmf := mkf
  clear hI
  obtain ⟨bf, qf⟩ : ∃ c, inB y 0 50 = c := ⟨_, rfl⟩
  obtain ⟨bs, qs⟩ : ∃ c, belowB x f.slots = c := ⟨_, rfl⟩
  obtain ⟨ba, qa⟩ : ∃ c, belowB x f.code.length = c := ⟨_, rfl⟩
  obtain ⟨bn, qn⟩ : ∃ c, callB m x = c := ⟨_, rfl⟩
  obtain ⟨bx, qx⟩ : ∃ c, inB x 0 50 = c := ⟨_, rfl⟩
  go_enter Tryd.func30, Tryd.ntmps30
  go_wp2_with fail
  refine (within_is qf _).mono ?_
  rintro e wa ⟨rfl, rfl⟩
  go_wp2_with fail
  refine (within_bl qs _).mono ?_
  rintro e wa ⟨rfl, rfl⟩
  go_wp2_with fail
  refine (within_bl qa _).mono ?_
  rintro e wa ⟨rfl, rfl⟩
  go_wp2_with fail
  go_quiet ((go_at_call 17; exact Calls.quiet_of_same (same_back (within_cl qn _))))
  go_wp2_with fail
  refine (within_is qx _).mono ?_
  rintro e wa ⟨rfl, rfl⟩
  go_wp2_with fail
  exact bodyPost_ret (v := .tuple #[.bool bx, .int .i64 1, .int .i64 0, .int .i64 (-1), .int .i64 0, .bool true]) (by simp [results, Tryd.results30, go_sem]) rfl (EffPost.mk qx.symm (fun _ => rfl) ⟨rfl, rfl, rfl, rfl⟩ (below3 _ _ _ _))
end Go.Proofs.YtcbgcjkcfolcoaaDoor
