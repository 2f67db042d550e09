/-
  The document's table of instructions (two).
-/
import Derived.Test.YtpfhnmgfcmkidaaDoorCEff
namespace Go.Proofs.YtpfhnmgfcmkidaaDoor
open Go.RowKit

set_option maxRecDepth 100000 in
set_option maxHeartbeats 4000000 in
theorem ef_3 {w : World} {b : Nat} {m : PM} {vf vc vk : Value} {f : PF} {g3 g4 g5 : Option Addr} {p3 p4 p5 : Nat} (h : EffAsk w b m vf vc vk f g3 g4 g5 p3 p4 p5) (x y : Int) :
    Calls Tryd.prog 30 #[.pointer (some ⟨b, 0, none⟩), .agg #[.string f.name, .int .i64 f.params, .int .i64 f.slots, .slice g3 f.code.length p3, .slice g4 f.hands.length p4, .slice g5 f.vars.length p5], .agg #[.int .i64 3, .int .i64 x, .int .i64 y]] w fun e w' => EffPost m f ⟨3, x, y⟩ w e w' := by
  obtain ⟨hI, h1, h2, h3, h4, h5, h6⟩ := h
  obtain ⟨_, ⟨gf, cf, rfl, _, _⟩, _⟩ := hI.img.funcs
  obtain ⟨gc, cc, rfl, _, _⟩ := hI.img.consts
  obtain ⟨_, ⟨gk, ck, rfl, _, _⟩, _⟩ := hI.img.classes
  have c0 := cell_al3 hI.c0
  have c1 := cell_al3 hI.c1
  have c2 := cell_al3 hI.c2
  have H := hide hI
  have hmf := mkf
  clear hI
  obtain ⟨bf, qf⟩ : ∃ c, inB y 0 50 = c := ⟨_, rfl⟩
  obtain ⟨bs, qs⟩ : ∃ c, belowB x f.slots = c := ⟨_, rfl⟩
  obtain ⟨ba, qa⟩ : ∃ c, belowB x f.code.length = c := ⟨_, rfl⟩
  obtain ⟨bn, qn⟩ : ∃ c, callB m x = c := ⟨_, rfl⟩
  go_enter Tryd.func30, Tryd.ntmps30
  go_wp2_with fail
  refine (within_is qf _).mono ?_
  rintro e wa ⟨rfl, rfl⟩
  go_wp2_with fail
  refine (within_bl qs _).mono ?_
  rintro e wa ⟨rfl, rfl⟩
  go_wp2_with fail
  refine (within_bl qa _).mono ?_
  rintro e wa ⟨rfl, rfl⟩
  go_wp2_with fail
  go_quiet ((go_at_call 16; exact Calls.quiet_of_same (same_back (within_cl qn _))))
  go_wp2_with fail
  exact bodyPost_ret (v := .tuple #[.bool true, .int .i64 0, .int .i64 1, .int .i64 (-1), .int .i64 0, .bool true]) (by simp [results, Tryd.results30, go_sem]) rfl (EffPost.mk rfl (fun _ => rfl) ⟨rfl, rfl, rfl, rfl⟩ (below3 _ _ _ _))

set_option maxRecDepth 100000 in
set_option maxHeartbeats 4000000 in
theorem ef_5 {w : World} {b : Nat} {m : PM} {vf vc vk : Value} {f : PF} {g3 g4 g5 : Option Addr} {p3 p4 p5 : Nat} (h : EffAsk w b m vf vc vk f g3 g4 g5 p3 p4 p5) (x y : Int) :
    Calls Tryd.prog 30 #[.pointer (some ⟨b, 0, none⟩), .agg #[.string f.name, .int .i64 f.params, .int .i64 f.slots, .slice g3 f.code.length p3, .slice g4 f.hands.length p4, .slice g5 f.vars.length p5], .agg #[.int .i64 5, .int .i64 x, .int .i64 y]] w fun e w' => EffPost m f ⟨5, x, y⟩ w e w' := by
  obtain ⟨hI, h1, h2, h3, h4, h5, h6⟩ := h
  obtain ⟨_, ⟨gf, cf, rfl, _, _⟩, _⟩ := hI.img.funcs
  obtain ⟨gc, cc, rfl, _, _⟩ := hI.img.consts
  obtain ⟨_, ⟨gk, ck, rfl, _, _⟩, _⟩ := hI.img.classes
  have c0 := cell_al3 hI.c0
  have c1 := cell_al3 hI.c1
  have c2 := cell_al3 hI.c2
  have H := hide hI
  have hmf := mkf
  clear hI
  obtain ⟨bf, qf⟩ : ∃ c, inB y 0 50 = c := ⟨_, rfl⟩
  obtain ⟨bs, qs⟩ : ∃ c, belowB x f.slots = c := ⟨_, rfl⟩
  obtain ⟨ba, qa⟩ : ∃ c, belowB x f.code.length = c := ⟨_, rfl⟩
  obtain ⟨bn, qn⟩ : ∃ c, callB m x = c := ⟨_, rfl⟩
  go_enter Tryd.func30, Tryd.ntmps30
  go_wp2_with fail
  refine (within_is qf _).mono ?_
  rintro e wa ⟨rfl, rfl⟩
  go_wp2_with fail
  refine (within_bl qs _).mono ?_
  rintro e wa ⟨rfl, rfl⟩
  go_wp2_with fail
  refine (within_bl qa _).mono ?_
  rintro e wa ⟨rfl, rfl⟩
  go_wp2_with fail
  go_quiet ((go_at_call 16; exact Calls.quiet_of_same (same_back (within_cl qn _))))
  go_wp2_with fail
  exact bodyPost_ret (v := .tuple #[.bool true, .int .i64 0, .int .i64 1, .int .i64 (-1), .int .i64 0, .bool true]) (by simp [results, Tryd.results30, go_sem]) rfl (EffPost.mk rfl (fun _ => rfl) ⟨rfl, rfl, rfl, rfl⟩ (below3 _ _ _ _))

set_option maxRecDepth 100000 in
set_option maxHeartbeats 4000000 in
theorem ef_19 {w : World} {b : Nat} {m : PM} {vf vc vk : Value} {f : PF} {g3 g4 g5 : Option Addr} {p3 p4 p5 : Nat} (h : EffAsk w b m vf vc vk f g3 g4 g5 p3 p4 p5) (x y : Int) :
    Calls Tryd.prog 30 #[.pointer (some ⟨b, 0, none⟩), .agg #[.string f.name, .int .i64 f.params, .int .i64 f.slots, .slice g3 f.code.length p3, .slice g4 f.hands.length p4, .slice g5 f.vars.length p5], .agg #[.int .i64 19, .int .i64 x, .int .i64 y]] w fun e w' => EffPost m f ⟨19, x, y⟩ w e w' := by
  obtain ⟨hI, h1, h2, h3, h4, h5, h6⟩ := h
  obtain ⟨_, ⟨gf, cf, rfl, _, _⟩, _⟩ := hI.img.funcs
  obtain ⟨gc, cc, rfl, _, _⟩ := hI.img.consts
  obtain ⟨_, ⟨gk, ck, rfl, _, _⟩, _⟩ := hI.img.classes
  have c0 := cell_al3 hI.c0
  have c1 := cell_al3 hI.c1
  have c2 := cell_al3 hI.c2
  have H := hide hI
  have hmf := mkf
  clear hI
  obtain ⟨bf, qf⟩ : ∃ c, inB y 0 50 = c := ⟨_, rfl⟩
  obtain ⟨bs, qs⟩ : ∃ c, belowB x f.slots = c := ⟨_, rfl⟩
  obtain ⟨ba, qa⟩ : ∃ c, belowB x f.code.length = c := ⟨_, rfl⟩
  obtain ⟨bn, qn⟩ : ∃ c, callB m x = c := ⟨_, rfl⟩
  go_enter Tryd.func30, Tryd.ntmps30
  go_wp2_with fail
  refine (within_is qf _).mono ?_
  rintro e wa ⟨rfl, rfl⟩
  go_wp2_with fail
  refine (within_bl qs _).mono ?_
  rintro e wa ⟨rfl, rfl⟩
  go_wp2_with fail
  refine (within_bl qa _).mono ?_
  rintro e wa ⟨rfl, rfl⟩
  go_wp2_with fail
  go_quiet ((go_at_call 16; exact Calls.quiet_of_same (same_back (within_cl qn _))))
  go_wp2_with fail
  exact bodyPost_ret (v := .tuple #[.bool true, .int .i64 1, .int .i64 1, .int .i64 (-1), .int .i64 0, .bool true]) (by simp [results, Tryd.results30, go_sem]) rfl (EffPost.mk rfl (fun _ => rfl) ⟨rfl, rfl, rfl, rfl⟩ (below3 _ _ _ _))

set_option maxRecDepth 100000 in
set_option maxHeartbeats 4000000 in
theorem ef_21 {w : World} {b : Nat} {m : PM} {vf vc vk : Value} {f : PF} {g3 g4 g5 : Option Addr} {p3 p4 p5 : Nat} (h : EffAsk w b m vf vc vk f g3 g4 g5 p3 p4 p5) (x y : Int) :
    Calls Tryd.prog 30 #[.pointer (some ⟨b, 0, none⟩), .agg #[.string f.name, .int .i64 f.params, .int .i64 f.slots, .slice g3 f.code.length p3, .slice g4 f.hands.length p4, .slice g5 f.vars.length p5], .agg #[.int .i64 21, .int .i64 x, .int .i64 y]] w fun e w' => EffPost m f ⟨21, x, y⟩ w e w' := by
  obtain ⟨hI, h1, h2, h3, h4, h5, h6⟩ := h
  obtain ⟨_, ⟨gf, cf, rfl, _, _⟩, _⟩ := hI.img.funcs
  obtain ⟨gc, cc, rfl, _, _⟩ := hI.img.consts
  obtain ⟨_, ⟨gk, ck, rfl, _, _⟩, _⟩ := hI.img.classes
  have c0 := cell_al3 hI.c0
  have c1 := cell_al3 hI.c1
  have c2 := cell_al3 hI.c2
  have H := hide hI
  have hmf := mkf
  clear hI
  obtain ⟨bf, qf⟩ : ∃ c, inB y 0 50 = c := ⟨_, rfl⟩
  obtain ⟨bs, qs⟩ : ∃ c, belowB x f.slots = c := ⟨_, rfl⟩
  obtain ⟨ba, qa⟩ : ∃ c, belowB x f.code.length = c := ⟨_, rfl⟩
  obtain ⟨bn, qn⟩ : ∃ c, callB m x = c := ⟨_, rfl⟩
  go_enter Tryd.func30, Tryd.ntmps30
  go_wp2_with fail
  refine (within_is qf _).mono ?_
  rintro e wa ⟨rfl, rfl⟩
  go_wp2_with fail
  refine (within_bl qs _).mono ?_
  rintro e wa ⟨rfl, rfl⟩
  go_wp2_with fail
  refine (within_bl qa _).mono ?_
  rintro e wa ⟨rfl, rfl⟩
  go_wp2_with fail
  go_quiet ((go_at_call 16; exact Calls.quiet_of_same (same_back (within_cl qn _))))
  go_wp2_with fail
  exact bodyPost_ret (v := .tuple #[.bool true, .int .i64 1, .int .i64 1, .int .i64 (-1), .int .i64 0, .bool true]) (by simp [results, Tryd.results30, go_sem]) rfl (EffPost.mk rfl (fun _ => rfl) ⟨rfl, rfl, rfl, rfl⟩ (below3 _ _ _ _))

set_option maxRecDepth 100000 in
set_option maxHeartbeats 4000000 in
theorem ef_23 {w : World} {b : Nat} {m : PM} {vf vc vk : Value} {f : PF} {g3 g4 g5 : Option Addr} {p3 p4 p5 : Nat} (h : EffAsk w b m vf vc vk f g3 g4 g5 p3 p4 p5) (x y : Int) :
    Calls Tryd.prog 30 #[.pointer (some ⟨b, 0, none⟩), .agg #[.string f.name, .int .i64 f.params, .int .i64 f.slots, .slice g3 f.code.length p3, .slice g4 f.hands.length p4, .slice g5 f.vars.length p5], .agg #[.int .i64 23, .int .i64 x, .int .i64 y]] w fun e w' => EffPost m f ⟨23, x, y⟩ w e w' := by
  obtain ⟨hI, h1, h2, h3, h4, h5, h6⟩ := h
  obtain ⟨_, ⟨gf, cf, rfl, _, _⟩, _⟩ := hI.img.funcs
  obtain ⟨gc, cc, rfl, _, _⟩ := hI.img.consts
  obtain ⟨_, ⟨gk, ck, rfl, _, _⟩, _⟩ := hI.img.classes
  have c0 := cell_al3 hI.c0
  have c1 := cell_al3 hI.c1
  have c2 := cell_al3 hI.c2
  have H := hide hI
  have hmf := mkf
  clear hI
  obtain ⟨bf, qf⟩ : ∃ c, inB y 0 50 = c := ⟨_, rfl⟩
  obtain ⟨bs, qs⟩ : ∃ c, belowB x f.slots = c := ⟨_, rfl⟩
  obtain ⟨ba, qa⟩ : ∃ c, belowB x f.code.length = c := ⟨_, rfl⟩
  obtain ⟨bn, qn⟩ : ∃ c, callB m x = c := ⟨_, rfl⟩
  go_enter Tryd.func30, Tryd.ntmps30
  go_wp2_with fail
  refine (within_is qf _).mono ?_
  rintro e wa ⟨rfl, rfl⟩
  go_wp2_with fail
  refine (within_bl qs _).mono ?_
  rintro e wa ⟨rfl, rfl⟩
  go_wp2_with fail
  refine (within_bl qa _).mono ?_
  rintro e wa ⟨rfl, rfl⟩
  go_wp2_with fail
  go_quiet ((go_at_call 16; exact Calls.quiet_of_same (same_back (within_cl qn _))))
  go_wp2_with fail
  exact bodyPost_ret (v := .tuple #[.bool true, .int .i64 2, .int .i64 1, .int .i64 (-1), .int .i64 0, .bool true]) (by simp [results, Tryd.results30, go_sem]) rfl (EffPost.mk rfl (fun _ => rfl) ⟨rfl, rfl, rfl, rfl⟩ (below3 _ _ _ _))

set_option maxRecDepth 100000 in
set_option maxHeartbeats 4000000 in
theorem ef_25 {w : World} {b : Nat} {m : PM} {vf vc vk : Value} {f : PF} {g3 g4 g5 : Option Addr} {p3 p4 p5 : Nat} (h : EffAsk w b m vf vc vk f g3 g4 g5 p3 p4 p5) (x y : Int) :
    Calls Tryd.prog 30 #[.pointer (some ⟨b, 0, none⟩), .agg #[.string f.name, .int .i64 f.params, .int .i64 f.slots, .slice g3 f.code.length p3, .slice g4 f.hands.length p4, .slice g5 f.vars.length p5], .agg #[.int .i64 25, .int .i64 x, .int .i64 y]] w fun e w' => EffPost m f ⟨25, x, y⟩ w e w' := by
  obtain ⟨hI, h1, h2, h3, h4, h5, h6⟩ := h
  obtain ⟨_, ⟨gf, cf, rfl, _, _⟩, _⟩ := hI.img.funcs
  obtain ⟨gc, cc, rfl, _, _⟩ := hI.img.consts
  obtain ⟨_, ⟨gk, ck, rfl, _, _⟩, _⟩ := hI.img.classes
  have c0 := cell_al3 hI.c0
  have c1 := cell_al3 hI.c1
  have c2 := cell_al3 hI.c2
  have H := hide hI
  have hmf := mkf
  clear hI
  obtain ⟨bf, qf⟩ : ∃ c, inB y 0 50 = c := ⟨_, rfl⟩
  obtain ⟨bs, qs⟩ : ∃ c, belowB x f.slots = c := ⟨_, rfl⟩
  obtain ⟨ba, qa⟩ : ∃ c, belowB x f.code.length = c := ⟨_, rfl⟩
  obtain ⟨bn, qn⟩ : ∃ c, callB m x = c := ⟨_, rfl⟩
  go_enter Tryd.func30, Tryd.ntmps30
  go_wp2_with fail
  refine (within_is qf _).mono ?_
  rintro e wa ⟨rfl, rfl⟩
  go_wp2_with fail
  refine (within_bl qs _).mono ?_
  rintro e wa ⟨rfl, rfl⟩
  go_wp2_with fail
  refine (within_bl qa _).mono ?_
  rintro e wa ⟨rfl, rfl⟩
  go_wp2_with fail
  go_quiet ((go_at_call 16; exact Calls.quiet_of_same (same_back (within_cl qn _))))
  go_wp2_with fail
  exact bodyPost_ret (v := .tuple #[.bool true, .int .i64 2, .int .i64 1, .int .i64 (-1), .int .i64 0, .bool true]) (by simp [results, Tryd.results30, go_sem]) rfl (EffPost.mk rfl (fun _ => rfl) ⟨rfl, rfl, rfl, rfl⟩ (below3 _ _ _ _))

set_option maxRecDepth 100000 in
set_option maxHeartbeats 4000000 in
theorem ef_27 {w : World} {b : Nat} {m : PM} {vf vc vk : Value} {f : PF} {g3 g4 g5 : Option Addr} {p3 p4 p5 : Nat} (h : EffAsk w b m vf vc vk f g3 g4 g5 p3 p4 p5) (x y : Int) :
    Calls Tryd.prog 30 #[.pointer (some ⟨b, 0, none⟩), .agg #[.string f.name, .int .i64 f.params, .int .i64 f.slots, .slice g3 f.code.length p3, .slice g4 f.hands.length p4, .slice g5 f.vars.length p5], .agg #[.int .i64 27, .int .i64 x, .int .i64 y]] w fun e w' => EffPost m f ⟨27, x, y⟩ w e w' := by
  obtain ⟨hI, h1, h2, h3, h4, h5, h6⟩ := h
  obtain ⟨_, ⟨gf, cf, rfl, _, _⟩, _⟩ := hI.img.funcs
  obtain ⟨gc, cc, rfl, _, _⟩ := hI.img.consts
  obtain ⟨_, ⟨gk, ck, rfl, _, _⟩, _⟩ := hI.img.classes
  have c0 := cell_al3 hI.c0
  have c1 := cell_al3 hI.c1
  have c2 := cell_al3 hI.c2
  have H := hide hI
  have hmf := mkf
  clear hI
  obtain ⟨bf, qf⟩ : ∃ c, inB y 0 50 = c := ⟨_, rfl⟩
  obtain ⟨bs, qs⟩ : ∃ c, belowB x f.slots = c := ⟨_, rfl⟩
  obtain ⟨ba, qa⟩ : ∃ c, belowB x f.code.length = c := ⟨_, rfl⟩
  obtain ⟨bn, qn⟩ : ∃ c, callB m x = c := ⟨_, rfl⟩
  go_enter Tryd.func30, Tryd.ntmps30
  go_wp2_with fail
  refine (within_is qf _).mono ?_
  rintro e wa ⟨rfl, rfl⟩
  go_wp2_with fail
  refine (within_bl qs _).mono ?_
  rintro e wa ⟨rfl, rfl⟩
  go_wp2_with fail
  refine (within_bl qa _).mono ?_
  rintro e wa ⟨rfl, rfl⟩
  go_wp2_with fail
  go_quiet ((go_at_call 16; exact Calls.quiet_of_same (same_back (within_cl qn _))))
  go_wp2_with fail
  exact bodyPost_ret (v := .tuple #[.bool true, .int .i64 2, .int .i64 1, .int .i64 (-1), .int .i64 0, .bool true]) (by simp [results, Tryd.results30, go_sem]) rfl (EffPost.mk rfl (fun _ => rfl) ⟨rfl, rfl, rfl, rfl⟩ (below3 _ _ _ _))

set_option maxRecDepth 100000 in
set_option maxHeartbeats 4000000 in
theorem ef_30 {w : World} {b : Nat} {m : PM} {vf vc vk : Value} {f : PF} {g3 g4 g5 : Option Addr} {p3 p4 p5 : Nat} (h : EffAsk w b m vf vc vk f g3 g4 g5 p3 p4 p5) (x y : Int) :
    Calls Tryd.prog 30 #[.pointer (some ⟨b, 0, none⟩), .agg #[.string f.name, .int .i64 f.params, .int .i64 f.slots, .slice g3 f.code.length p3, .slice g4 f.hands.length p4, .slice g5 f.vars.length p5], .agg #[.int .i64 30, .int .i64 x, .int .i64 y]] w fun e w' => EffPost m f ⟨30, x, y⟩ w e w' := by
  obtain ⟨hI, h1, h2, h3, h4, h5, h6⟩ := h
  obtain ⟨_, ⟨gf, cf, rfl, _, _⟩, _⟩ := hI.img.funcs
  obtain ⟨gc, cc, rfl, _, _⟩ := hI.img.consts
  obtain ⟨_, ⟨gk, ck, rfl, _, _⟩, _⟩ := hI.img.classes
  have c0 := cell_al3 hI.c0
  have c1 := cell_al3 hI.c1
  have c2 := cell_al3 hI.c2
  have H := hide hI
  have hmf := mkf
  clear hI
  obtain ⟨bf, qf⟩ : ∃ c, inB y 0 50 = c := ⟨_, rfl⟩
  obtain ⟨bs, qs⟩ : ∃ c, belowB x f.slots = c := ⟨_, rfl⟩
  obtain ⟨ba, qa⟩ : ∃ c, belowB x f.code.length = c := ⟨_, rfl⟩
  obtain ⟨bn, qn⟩ : ∃ c, callB m x = c := ⟨_, rfl⟩
  go_enter Tryd.func30, Tryd.ntmps30
  go_wp2_with fail
  refine (within_is qf _).mono ?_
  rintro e wa ⟨rfl, rfl⟩
  go_wp2_with fail
  refine (within_bl qs _).mono ?_
  rintro e wa ⟨rfl, rfl⟩
  go_wp2_with fail
  refine (within_bl qa _).mono ?_
  rintro e wa ⟨rfl, rfl⟩
  go_wp2_with fail
  go_quiet ((go_at_call 16; exact Calls.quiet_of_same (same_back (within_cl qn _))))
  go_wp2_with fail
  exact bodyPost_ret (v := .tuple #[.bool true, .int .i64 2, .int .i64 1, .int .i64 (-1), .int .i64 0, .bool true]) (by simp [results, Tryd.results30, go_sem]) rfl (EffPost.mk rfl (fun _ => rfl) ⟨rfl, rfl, rfl, rfl⟩ (below3 _ _ _ _))

set_option maxRecDepth 100000 in
set_option maxHeartbeats 4000000 in
theorem ef_40 {w : World} {b : Nat} {m : PM} {vf vc vk : Value} {f : PF} {g3 g4 g5 : Option Addr} {p3 p4 p5 : Nat} (h : EffAsk w b m vf vc vk f g3 g4 g5 p3 p4 p5) (x y : Int) :
    Calls Tryd.prog 30 #[.pointer (some ⟨b, 0, none⟩), .agg #[.string f.name, .int .i64 f.params, .int .i64 f.slots, .slice g3 f.code.length p3, .slice g4 f.hands.length p4, .slice g5 f.vars.length p5], .agg #[.int .i64 40, .int .i64 x, .int .i64 y]] w fun e w' => EffPost m f ⟨40, x, y⟩ w e w' := by
  obtain ⟨hI, h1, h2, h3, h4, h5, h6⟩ := h
  obtain ⟨_, ⟨gf, cf, rfl, _, _⟩, _⟩ := hI.img.funcs
  obtain ⟨gc, cc, rfl, _, _⟩ := hI.img.consts
  obtain ⟨_, ⟨gk, ck, rfl, _, _⟩, _⟩ := hI.img.classes
  have c0 := cell_al3 hI.c0
  have c1 := cell_al3 hI.c1
  have c2 := cell_al3 hI.c2
  have H := hide hI
  have hmf := mkf
  clear hI
  obtain ⟨bf, qf⟩ : ∃ c, inB y 0 50 = c := ⟨_, rfl⟩
  obtain ⟨bs, qs⟩ : ∃ c, belowB x f.slots = c := ⟨_, rfl⟩
  obtain ⟨ba, qa⟩ : ∃ c, belowB x f.code.length = c := ⟨_, rfl⟩
  obtain ⟨bn, qn⟩ : ∃ c, callB m x = c := ⟨_, rfl⟩
  go_enter Tryd.func30, Tryd.ntmps30
  go_wp2_with fail
  refine (within_is qf _).mono ?_
  rintro e wa ⟨rfl, rfl⟩
  go_wp2_with fail
  refine (within_bl qs _).mono ?_
  rintro e wa ⟨rfl, rfl⟩
  go_wp2_with fail
  refine (within_bl qa _).mono ?_
  rintro e wa ⟨rfl, rfl⟩
  go_wp2_with fail
  go_quiet ((go_at_call 16; exact Calls.quiet_of_same (same_back (within_cl qn _))))
  go_wp2_with fail
  exact bodyPost_ret (v := .tuple #[.bool true, .int .i64 1, .int .i64 0, .int .i64 (-1), .int .i64 0, .bool false]) (by simp [results, Tryd.results30, go_sem]) rfl (EffPost.mk rfl (fun _ => rfl) ⟨rfl, rfl, rfl, rfl⟩ (below3 _ _ _ _))

set_option maxRecDepth 100000 in
set_option maxHeartbeats 4000000 in
theorem ef_42 {w : World} {b : Nat} {m : PM} {vf vc vk : Value} {f : PF} {g3 g4 g5 : Option Addr} {p3 p4 p5 : Nat} (h : EffAsk w b m vf vc vk f g3 g4 g5 p3 p4 p5) (x y : Int) :
    Calls Tryd.prog 30 #[.pointer (some ⟨b, 0, none⟩), .agg #[.string f.name, .int .i64 f.params, .int .i64 f.slots, .slice g3 f.code.length p3, .slice g4 f.hands.length p4, .slice g5 f.vars.length p5], .agg #[.int .i64 42, .int .i64 x, .int .i64 y]] w fun e w' => EffPost m f ⟨42, x, y⟩ w e w' := by
  obtain ⟨hI, h1, h2, h3, h4, h5, h6⟩ := h
  obtain ⟨_, ⟨gf, cf, rfl, _, _⟩, _⟩ := hI.img.funcs
  obtain ⟨gc, cc, rfl, _, _⟩ := hI.img.consts
  obtain ⟨_, ⟨gk, ck, rfl, _, _⟩, _⟩ := hI.img.classes
  have c0 := cell_al3 hI.c0
  have c1 := cell_al3 hI.c1
  have c2 := cell_al3 hI.c2
  have H := hide hI
  have hmf := mkf
  clear hI
  obtain ⟨bf, qf⟩ : ∃ c, inB y 0 50 = c := ⟨_, rfl⟩
  obtain ⟨bs, qs⟩ : ∃ c, belowB x f.slots = c := ⟨_, rfl⟩
  obtain ⟨ba, qa⟩ : ∃ c, belowB x f.code.length = c := ⟨_, rfl⟩
  obtain ⟨bn, qn⟩ : ∃ c, callB m x = c := ⟨_, rfl⟩
  go_enter Tryd.func30, Tryd.ntmps30
  go_wp2_with fail
  refine (within_is qf _).mono ?_
  rintro e wa ⟨rfl, rfl⟩
  go_wp2_with fail
  refine (within_bl qs _).mono ?_
  rintro e wa ⟨rfl, rfl⟩
  go_wp2_with fail
  refine (within_bl qa _).mono ?_
  rintro e wa ⟨rfl, rfl⟩
  go_wp2_with fail
  go_quiet ((go_at_call 16; exact Calls.quiet_of_same (same_back (within_cl qn _))))
  go_wp2_with fail
  exact bodyPost_ret (v := .tuple #[.bool true, .int .i64 1, .int .i64 0, .int .i64 (-1), .int .i64 0, .bool true]) (by simp [results, Tryd.results30, go_sem]) rfl (EffPost.mk rfl (fun _ => rfl) ⟨rfl, rfl, rfl, rfl⟩ (below3 _ _ _ _))

set_option maxRecDepth 100000 in
set_option maxHeartbeats 4000000 in
theorem ef_44 {w : World} {b : Nat} {m : PM} {vf vc vk : Value} {f : PF} {g3 g4 g5 : Option Addr} {p3 p4 p5 : Nat} (h : EffAsk w b m vf vc vk f g3 g4 g5 p3 p4 p5) (x y : Int) :
    Calls Tryd.prog 30 #[.pointer (some ⟨b, 0, none⟩), .agg #[.string f.name, .int .i64 f.params, .int .i64 f.slots, .slice g3 f.code.length p3, .slice g4 f.hands.length p4, .slice g5 f.vars.length p5], .agg #[.int .i64 44, .int .i64 x, .int .i64 y]] w fun e w' => EffPost m f ⟨44, x, y⟩ w e w' := by
  obtain ⟨hI, h1, h2, h3, h4, h5, h6⟩ := h
  obtain ⟨_, ⟨gf, cf, rfl, _, _⟩, _⟩ := hI.img.funcs
  obtain ⟨gc, cc, rfl, _, _⟩ := hI.img.consts
  obtain ⟨_, ⟨gk, ck, rfl, _, _⟩, _⟩ := hI.img.classes
  have c0 := cell_al3 hI.c0
  have c1 := cell_al3 hI.c1
  have c2 := cell_al3 hI.c2
  have H := hide hI
  have hmf := mkf
  clear hI
  obtain ⟨bf, qf⟩ : ∃ c, inB y 0 50 = c := ⟨_, rfl⟩
  obtain ⟨bs, qs⟩ : ∃ c, belowB x f.slots = c := ⟨_, rfl⟩
  obtain ⟨ba, qa⟩ : ∃ c, belowB x f.code.length = c := ⟨_, rfl⟩
  obtain ⟨bn, qn⟩ : ∃ c, callB m x = c := ⟨_, rfl⟩
  go_enter Tryd.func30, Tryd.ntmps30
  go_wp2_with fail
  refine (within_is qf _).mono ?_
  rintro e wa ⟨rfl, rfl⟩
  go_wp2_with fail
  refine (within_bl qs _).mono ?_
  rintro e wa ⟨rfl, rfl⟩
  go_wp2_with fail
  refine (within_bl qa _).mono ?_
  rintro e wa ⟨rfl, rfl⟩
  go_wp2_with fail
  go_quiet ((go_at_call 16; exact Calls.quiet_of_same (same_back (within_cl qn _))))
  go_wp2_with fail
  exact bodyPost_ret (v := .tuple #[.bool true, .int .i64 1, .int .i64 1, .int .i64 (-1), .int .i64 0, .bool true]) (by simp [results, Tryd.results30, go_sem]) rfl (EffPost.mk rfl (fun _ => rfl) ⟨rfl, rfl, rfl, rfl⟩ (below3 _ _ _ _))
end Go.Proofs.YtpfhnmgfcmkidaaDoor
