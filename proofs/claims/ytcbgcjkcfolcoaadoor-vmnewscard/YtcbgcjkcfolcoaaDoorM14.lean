/-
  The document's table of instructions (five).
  The document's table of instructions (six).
  The document's table of instructions (seven).
-/
import Derived.Test.YtcbgcjkcfolcoaaDoorM13
namespace Go.Proofs.YtcbgcjkcfolcoaaDoor
open Go.RowKit

set_option maxRecDepth 100000 in
set_option maxHeartbeats 4000000 in
theorem ef_29 {w : World} {b : Nat} {m : PM} {vf vc vk : Value} {f : PF} {g3 g4 g5 : Option Addr} {p3 p4 p5 : Nat} (h : EffAsk w b m vf vc vk f g3 g4 g5 p3 p4 p5) (x y : Int) :
    Calls Tryd.prog 30 #[.pointer (some ⟨b, 0, none⟩), .agg #[.string f.name, .int .i64 f.params, .int .i64 f.slots, .slice g3 f.code.length p3, .slice g4 f.hands.length p4, .slice g5 f.vars.length p5], .agg #[.int .i64 29, .int .i64 x, .int .i64 y]] w fun e w' => EffPost m f ⟨29, x, y⟩ w e w' := by
  obtain ⟨hI, h1, h2, h3, h4, h5, h6⟩ := h
  obtain ⟨_, ⟨gf, cf, rfl, _, _⟩, _⟩ := hI.img.funcs
  obtain ⟨gc, cc, rfl, _, _⟩ := hI.img.consts
  obtain ⟨_, ⟨gk, ck, rfl, _, _⟩, _⟩ := hI.img.classes
  have c0 := cell_al3 hI.c0
  have c1 := cell_al3 hI.c1
  have c2 := cell_al3 hI.c2
  have H := hide hI
  have hmf := mkf
  clear hI
  obtain ⟨bf, qf⟩ : ∃ c, inB y 0 50 = c := ⟨_, rfl⟩
  obtain ⟨bs, qs⟩ : ∃ c, belowB x f.slots = c := ⟨_, rfl⟩
  obtain ⟨ba, qa⟩ : ∃ c, belowB x f.code.length = c := ⟨_, rfl⟩
  obtain ⟨bn, qn⟩ : ∃ c, callB m x = c := ⟨_, rfl⟩
  obtain ⟨bx, qx⟩ : ∃ c, inB x 0 50 = c := ⟨_, rfl⟩
  go_enter Tryd.func30, Tryd.ntmps30
  go_wp2_with fail
  refine (within_is qf _).mono ?_
  rintro e wa ⟨rfl, rfl⟩
  go_wp2_with fail
  refine (within_bl qs _).mono ?_
  rintro e wa ⟨rfl, rfl⟩
  go_wp2_with fail
  refine (within_bl qa _).mono ?_
  rintro e wa ⟨rfl, rfl⟩
  go_wp2_with fail
  go_quiet ((go_at_call 17; exact Calls.quiet_of_same (same_back (within_cl qn _))))
  go_wp2_with fail
  obtain ⟨W1, hW1⟩ : ∃ W1, ((((w.alloc (.cells #[.pointer (some ⟨b, 0, none⟩)] 42)).alloc (.cells #[.string f.name, .int .i64 f.params, .int .i64 f.slots, .slice g3 f.code.length p3, .slice g4 f.hands.length p4, .slice g5 f.vars.length p5] 81)).alloc (.cells #[.int .i64 29, .int .i64 x, .int .i64 y] 88)).drewN nq) = W1 := ⟨_, rfl⟩
  have HB1 : Hid (Below w.heap.size w W1) := by
    show Below _ _ _
    rw [← hW1]; exact below3 _ _ _ _
  have HI1 : Hid (ImgAt W1 b m (.slice gf m.funcs.length cf) (.slice gc m.consts.length cc) (.slice gk m.classes.length ck)) := (unhide H).keep (unhide HB1)
  have k0 : W1.cell? ⟨w.heap.size, 0, none⟩ = some (.pointer (some ⟨b, 0, none⟩)) := by
    rw [← hW1]; exact cell_al (cell_al (hcell (hnew _ _) 0) _) _
  have k2 : W1.cell? ⟨w.heap.size + 1 + 1, 1, none⟩ = some (.int .i64 x) := by
    rw [← hW1]; exact eff_box w _ _ _ 1
  have k3 : W1.cell? ⟨w.heap.size + 1 + 1, 2, none⟩ = some (.int .i64 y) := by
    rw [← hW1]; exact eff_box w _ _ _ 2
  have k4 := (unhide HI1).c0
  have k5 := (unhide HI1).c1
  have k6 := (unhide HI1).c2
  rw [hW1]
  clear hW1 c0 c1 c2
  go_quiet ((go_at_call 17; exact Calls.quiet_of_same (same_back (within_is qx _))))
  go_wp2_with fail
  exact bodyPost_ret (v := .tuple #[.bool bx, .int .i64 x, .int .i64 1, .int .i64 (-1), .int .i64 0, .bool true]) (by simp [results, Tryd.results30, go_sem]) rfl (EffPost.mk qx.symm (fun _ => rfl) ⟨rfl, rfl, rfl, rfl⟩ (Bl.drewN (unhide HB1) _))

set_option maxRecDepth 100000 in
set_option maxHeartbeats 4000000 in
theorem ef_15 {w : World} {b : Nat} {m : PM} {vf vc vk : Value} {f : PF} {g3 g4 g5 : Option Addr} {p3 p4 p5 : Nat} (h : EffAsk w b m vf vc vk f g3 g4 g5 p3 p4 p5) (x y : Int) :
    Calls Tryd.prog 30 #[.pointer (some ⟨b, 0, none⟩), .agg #[.string f.name, .int .i64 f.params, .int .i64 f.slots, .slice g3 f.code.length p3, .slice g4 f.hands.length p4, .slice g5 f.vars.length p5], .agg #[.int .i64 15, .int .i64 x, .int .i64 y]] w fun e w' => EffPost m f ⟨15, x, y⟩ w e w' := by
  obtain ⟨hI, h1, h2, h3, h4, h5, h6⟩ := h
  obtain ⟨_, ⟨gf, cf, rfl, _, _⟩, _⟩ := hI.img.funcs
  obtain ⟨gc, cc, rfl, _, _⟩ := hI.img.consts
  obtain ⟨_, ⟨gk, ck, rfl, _, _⟩, _⟩ := hI.img.classes
  have c0 := cell_al3 hI.c0
  have c1 := cell_al3 hI.c1
  have c2 := cell_al3 hI.c2
  have H := hide hI
  have hmf := mkf
  clear hI
  obtain ⟨bf, qf⟩ : ∃ c, inB y 0 50 = c := ⟨_, rfl⟩
  obtain ⟨bs, qs⟩ : ∃ c, belowB x f.slots = c := ⟨_, rfl⟩
  obtain ⟨ba, qa⟩ : ∃ c, belowB x f.code.length = c := ⟨_, rfl⟩
  obtain ⟨bn, qn⟩ : ∃ c, callB m x = c := ⟨_, rfl⟩
  go_enter Tryd.func30, Tryd.ntmps30
  go_wp2_with fail
  refine (within_is qf _).mono ?_
  rintro e wa ⟨rfl, rfl⟩
  go_wp2_with fail
  refine (within_bl qs _).mono ?_
  rintro e wa ⟨rfl, rfl⟩
  go_wp2_with fail
  refine (within_bl qa _).mono ?_
  rintro e wa ⟨rfl, rfl⟩
  go_wp2_with fail
  go_quiet ((go_at_call 17; exact Calls.quiet_of_same (same_back (within_cl qn _))))
  go_wp2_with fail
  obtain ⟨W1, hW1⟩ : ∃ W1, ((((w.alloc (.cells #[.pointer (some ⟨b, 0, none⟩)] 42)).alloc (.cells #[.string f.name, .int .i64 f.params, .int .i64 f.slots, .slice g3 f.code.length p3, .slice g4 f.hands.length p4, .slice g5 f.vars.length p5] 81)).alloc (.cells #[.int .i64 15, .int .i64 x, .int .i64 y] 88)).drewN nq) = W1 := ⟨_, rfl⟩
  have HB1 : Hid (Below w.heap.size w W1) := by
    show Below _ _ _
    rw [← hW1]; exact below3 _ _ _ _
  have HI1 : Hid (ImgAt W1 b m (.slice gf m.funcs.length cf) (.slice gc m.consts.length cc) (.slice gk m.classes.length ck)) := (unhide H).keep (unhide HB1)
  have k0 : W1.cell? ⟨w.heap.size, 0, none⟩ = some (.pointer (some ⟨b, 0, none⟩)) := by
    rw [← hW1]; exact cell_al (cell_al (hcell (hnew _ _) 0) _) _
  have k2 : W1.cell? ⟨w.heap.size + 1 + 1, 1, none⟩ = some (.int .i64 x) := by
    rw [← hW1]; exact eff_box w _ _ _ 1
  have k3 : W1.cell? ⟨w.heap.size + 1 + 1, 2, none⟩ = some (.int .i64 y) := by
    rw [← hW1]; exact eff_box w _ _ _ 2
  have k4 := (unhide HI1).c0
  have k5 := (unhide HI1).c1
  have k6 := (unhide HI1).c2
  rw [hW1]
  clear hW1 c0 c1 c2
  go_quiet (fail)
  go_wp2_with fail
  exact bodyPost_ret (v := .tuple #[.bool ba, .int .i64 0, .int .i64 0, .int .i64 x, .int .i64 0, .bool false]) (by simp [results, Tryd.results30, go_sem]) rfl (EffPost.mk qa.symm (fun _ => rfl) ⟨rfl, rfl, rfl, rfl⟩ (Bl.drewN (unhide HB1) _))

set_option maxRecDepth 100000 in
set_option maxHeartbeats 4000000 in
theorem ef_16 {w : World} {b : Nat} {m : PM} {vf vc vk : Value} {f : PF} {g3 g4 g5 : Option Addr} {p3 p4 p5 : Nat} (h : EffAsk w b m vf vc vk f g3 g4 g5 p3 p4 p5) (x y : Int) :
    Calls Tryd.prog 30 #[.pointer (some ⟨b, 0, none⟩), .agg #[.string f.name, .int .i64 f.params, .int .i64 f.slots, .slice g3 f.code.length p3, .slice g4 f.hands.length p4, .slice g5 f.vars.length p5], .agg #[.int .i64 16, .int .i64 x, .int .i64 y]] w fun e w' => EffPost m f ⟨16, x, y⟩ w e w' := by
  obtain ⟨hI, h1, h2, h3, h4, h5, h6⟩ := h
  obtain ⟨_, ⟨gf, cf, rfl, _, _⟩, _⟩ := hI.img.funcs
  obtain ⟨gc, cc, rfl, _, _⟩ := hI.img.consts
  obtain ⟨_, ⟨gk, ck, rfl, _, _⟩, _⟩ := hI.img.classes
  have c0 := cell_al3 hI.c0
  have c1 := cell_al3 hI.c1
  have c2 := cell_al3 hI.c2
  have H := hide hI
  have hmf := mkf
  clear hI
  obtain ⟨bf, qf⟩ : ∃ c, inB y 0 50 = c := ⟨_, rfl⟩
  obtain ⟨bs, qs⟩ : ∃ c, belowB x f.slots = c := ⟨_, rfl⟩
  obtain ⟨ba, qa⟩ : ∃ c, belowB x f.code.length = c := ⟨_, rfl⟩
  obtain ⟨bn, qn⟩ : ∃ c, callB m x = c := ⟨_, rfl⟩
  go_enter Tryd.func30, Tryd.ntmps30
  go_wp2_with fail
  refine (within_is qf _).mono ?_
  rintro e wa ⟨rfl, rfl⟩
  go_wp2_with fail
  refine (within_bl qs _).mono ?_
  rintro e wa ⟨rfl, rfl⟩
  go_wp2_with fail
  refine (within_bl qa _).mono ?_
  rintro e wa ⟨rfl, rfl⟩
  go_wp2_with fail
  go_quiet ((go_at_call 17; exact Calls.quiet_of_same (same_back (within_cl qn _))))
  go_wp2_with fail
  obtain ⟨W1, hW1⟩ : ∃ W1, ((((w.alloc (.cells #[.pointer (some ⟨b, 0, none⟩)] 42)).alloc (.cells #[.string f.name, .int .i64 f.params, .int .i64 f.slots, .slice g3 f.code.length p3, .slice g4 f.hands.length p4, .slice g5 f.vars.length p5] 81)).alloc (.cells #[.int .i64 16, .int .i64 x, .int .i64 y] 88)).drewN nq) = W1 := ⟨_, rfl⟩
  have HB1 : Hid (Below w.heap.size w W1) := by
    show Below _ _ _
    rw [← hW1]; exact below3 _ _ _ _
  have HI1 : Hid (ImgAt W1 b m (.slice gf m.funcs.length cf) (.slice gc m.consts.length cc) (.slice gk m.classes.length ck)) := (unhide H).keep (unhide HB1)
  have k0 : W1.cell? ⟨w.heap.size, 0, none⟩ = some (.pointer (some ⟨b, 0, none⟩)) := by
    rw [← hW1]; exact cell_al (cell_al (hcell (hnew _ _) 0) _) _
  have k2 : W1.cell? ⟨w.heap.size + 1 + 1, 1, none⟩ = some (.int .i64 x) := by
    rw [← hW1]; exact eff_box w _ _ _ 1
  have k3 : W1.cell? ⟨w.heap.size + 1 + 1, 2, none⟩ = some (.int .i64 y) := by
    rw [← hW1]; exact eff_box w _ _ _ 2
  have k4 := (unhide HI1).c0
  have k5 := (unhide HI1).c1
  have k6 := (unhide HI1).c2
  rw [hW1]
  clear hW1 c0 c1 c2
  go_quiet (fail)
  go_wp2_with fail
  exact bodyPost_ret (v := .tuple #[.bool ba, .int .i64 1, .int .i64 0, .int .i64 x, .int .i64 0, .bool true]) (by simp [results, Tryd.results30, go_sem]) rfl (EffPost.mk qa.symm (fun _ => rfl) ⟨rfl, rfl, rfl, rfl⟩ (Bl.drewN (unhide HB1) _))

set_option maxRecDepth 100000 in
set_option maxHeartbeats 4000000 in
theorem ef_17 {w : World} {b : Nat} {m : PM} {vf vc vk : Value} {f : PF} {g3 g4 g5 : Option Addr} {p3 p4 p5 : Nat} (h : EffAsk w b m vf vc vk f g3 g4 g5 p3 p4 p5) (x y : Int) :
    Calls Tryd.prog 30 #[.pointer (some ⟨b, 0, none⟩), .agg #[.string f.name, .int .i64 f.params, .int .i64 f.slots, .slice g3 f.code.length p3, .slice g4 f.hands.length p4, .slice g5 f.vars.length p5], .agg #[.int .i64 17, .int .i64 x, .int .i64 y]] w fun e w' => EffPost m f ⟨17, x, y⟩ w e w' := by
  obtain ⟨hI, h1, h2, h3, h4, h5, h6⟩ := h
  obtain ⟨_, ⟨gf, cf, rfl, _, _⟩, _⟩ := hI.img.funcs
  obtain ⟨gc, cc, rfl, _, _⟩ := hI.img.consts
  obtain ⟨_, ⟨gk, ck, rfl, _, _⟩, _⟩ := hI.img.classes
  have c0 := cell_al3 hI.c0
  have c1 := cell_al3 hI.c1
  have c2 := cell_al3 hI.c2
  have H := hide hI
  have hmf := mkf
  clear hI
  obtain ⟨bf, qf⟩ : ∃ c, inB y 0 50 = c := ⟨_, rfl⟩
  obtain ⟨bs, qs⟩ : ∃ c, belowB x f.slots = c := ⟨_, rfl⟩
  obtain ⟨ba, qa⟩ : ∃ c, belowB x f.code.length = c := ⟨_, rfl⟩
  obtain ⟨bn, qn⟩ : ∃ c, callB m x = c := ⟨_, rfl⟩
  go_enter Tryd.func30, Tryd.ntmps30
  go_wp2_with fail
  refine (within_is qf _).mono ?_
  rintro e wa ⟨rfl, rfl⟩
  go_wp2_with fail
  refine (within_bl qs _).mono ?_
  rintro e wa ⟨rfl, rfl⟩
  go_wp2_with fail
  refine (within_bl qa _).mono ?_
  rintro e wa ⟨rfl, rfl⟩
  go_wp2_with fail
  go_quiet ((go_at_call 17; exact Calls.quiet_of_same (same_back (within_cl qn _))))
  go_wp2_with fail
  obtain ⟨W1, hW1⟩ : ∃ W1, ((((w.alloc (.cells #[.pointer (some ⟨b, 0, none⟩)] 42)).alloc (.cells #[.string f.name, .int .i64 f.params, .int .i64 f.slots, .slice g3 f.code.length p3, .slice g4 f.hands.length p4, .slice g5 f.vars.length p5] 81)).alloc (.cells #[.int .i64 17, .int .i64 x, .int .i64 y] 88)).drewN nq) = W1 := ⟨_, rfl⟩
  have HB1 : Hid (Below w.heap.size w W1) := by
    show Below _ _ _
    rw [← hW1]; exact below3 _ _ _ _
  have HI1 : Hid (ImgAt W1 b m (.slice gf m.funcs.length cf) (.slice gc m.consts.length cc) (.slice gk m.classes.length ck)) := (unhide H).keep (unhide HB1)
  have k0 : W1.cell? ⟨w.heap.size, 0, none⟩ = some (.pointer (some ⟨b, 0, none⟩)) := by
    rw [← hW1]; exact cell_al (cell_al (hcell (hnew _ _) 0) _) _
  have k2 : W1.cell? ⟨w.heap.size + 1 + 1, 1, none⟩ = some (.int .i64 x) := by
    rw [← hW1]; exact eff_box w _ _ _ 1
  have k3 : W1.cell? ⟨w.heap.size + 1 + 1, 2, none⟩ = some (.int .i64 y) := by
    rw [← hW1]; exact eff_box w _ _ _ 2
  have k4 := (unhide HI1).c0
  have k5 := (unhide HI1).c1
  have k6 := (unhide HI1).c2
  rw [hW1]
  clear hW1 c0 c1 c2
  go_quiet (fail)
  go_wp2_with fail
  exact bodyPost_ret (v := .tuple #[.bool ba, .int .i64 1, .int .i64 0, .int .i64 x, .int .i64 1, .bool true]) (by simp [results, Tryd.results30, go_sem]) rfl (EffPost.mk qa.symm (fun _ => rfl) ⟨rfl, rfl, rfl, rfl⟩ (Bl.drewN (unhide HB1) _))

set_option maxRecDepth 100000 in
set_option maxHeartbeats 4000000 in
theorem ef_18 {w : World} {b : Nat} {m : PM} {vf vc vk : Value} {f : PF} {g3 g4 g5 : Option Addr} {p3 p4 p5 : Nat} (h : EffAsk w b m vf vc vk f g3 g4 g5 p3 p4 p5) (x y : Int) :
    Calls Tryd.prog 30 #[.pointer (some ⟨b, 0, none⟩), .agg #[.string f.name, .int .i64 f.params, .int .i64 f.slots, .slice g3 f.code.length p3, .slice g4 f.hands.length p4, .slice g5 f.vars.length p5], .agg #[.int .i64 18, .int .i64 x, .int .i64 y]] w fun e w' => EffPost m f ⟨18, x, y⟩ w e w' := by
  obtain ⟨hI, h1, h2, h3, h4, h5, h6⟩ := h
  obtain ⟨_, ⟨gf, cf, rfl, _, _⟩, _⟩ := hI.img.funcs
  obtain ⟨gc, cc, rfl, _, _⟩ := hI.img.consts
  obtain ⟨_, ⟨gk, ck, rfl, _, _⟩, _⟩ := hI.img.classes
  have c0 := cell_al3 hI.c0
  have c1 := cell_al3 hI.c1
  have c2 := cell_al3 hI.c2
  have H := hide hI
  have hmf := mkf
  clear hI
  obtain ⟨bf, qf⟩ : ∃ c, inB y 0 50 = c := ⟨_, rfl⟩
  obtain ⟨bs, qs⟩ : ∃ c, belowB x f.slots = c := ⟨_, rfl⟩
  obtain ⟨ba, qa⟩ : ∃ c, belowB x f.code.length = c := ⟨_, rfl⟩
  obtain ⟨bn, qn⟩ : ∃ c, callB m x = c := ⟨_, rfl⟩
  go_enter Tryd.func30, Tryd.ntmps30
  go_wp2_with fail
  refine (within_is qf _).mono ?_
  rintro e wa ⟨rfl, rfl⟩
  go_wp2_with fail
  refine (within_bl qs _).mono ?_
  rintro e wa ⟨rfl, rfl⟩
  go_wp2_with fail
  refine (within_bl qa _).mono ?_
  rintro e wa ⟨rfl, rfl⟩
  go_wp2_with fail
  go_quiet ((go_at_call 17; exact Calls.quiet_of_same (same_back (within_cl qn _))))
  go_wp2_with fail
  obtain ⟨W1, hW1⟩ : ∃ W1, ((((w.alloc (.cells #[.pointer (some ⟨b, 0, none⟩)] 42)).alloc (.cells #[.string f.name, .int .i64 f.params, .int .i64 f.slots, .slice g3 f.code.length p3, .slice g4 f.hands.length p4, .slice g5 f.vars.length p5] 81)).alloc (.cells #[.int .i64 18, .int .i64 x, .int .i64 y] 88)).drewN nq) = W1 := ⟨_, rfl⟩
  have HB1 : Hid (Below w.heap.size w W1) := by
    show Below _ _ _
    rw [← hW1]; exact below3 _ _ _ _
  have HI1 : Hid (ImgAt W1 b m (.slice gf m.funcs.length cf) (.slice gc m.consts.length cc) (.slice gk m.classes.length ck)) := (unhide H).keep (unhide HB1)
  have k0 : W1.cell? ⟨w.heap.size, 0, none⟩ = some (.pointer (some ⟨b, 0, none⟩)) := by
    rw [← hW1]; exact cell_al (cell_al (hcell (hnew _ _) 0) _) _
  have k2 : W1.cell? ⟨w.heap.size + 1 + 1, 1, none⟩ = some (.int .i64 x) := by
    rw [← hW1]; exact eff_box w _ _ _ 1
  have k3 : W1.cell? ⟨w.heap.size + 1 + 1, 2, none⟩ = some (.int .i64 y) := by
    rw [← hW1]; exact eff_box w _ _ _ 2
  have k4 := (unhide HI1).c0
  have k5 := (unhide HI1).c1
  have k6 := (unhide HI1).c2
  rw [hW1]
  clear hW1 c0 c1 c2
  go_quiet (fail)
  go_wp2_with fail
  exact bodyPost_ret (v := .tuple #[.bool ba, .int .i64 1, .int .i64 0, .int .i64 x, .int .i64 1, .bool true]) (by simp [results, Tryd.results30, go_sem]) rfl (EffPost.mk qa.symm (fun _ => rfl) ⟨rfl, rfl, rfl, rfl⟩ (Bl.drewN (unhide HB1) _))

set_option maxRecDepth 100000 in
set_option maxHeartbeats 4000000 in
theorem ef_2 {w : World} {b : Nat} {m : PM} {vf vc vk : Value} {f : PF} {g3 g4 g5 : Option Addr} {p3 p4 p5 : Nat} (h : EffAsk w b m vf vc vk f g3 g4 g5 p3 p4 p5) (x y : Int) :
    Calls Tryd.prog 30 #[.pointer (some ⟨b, 0, none⟩), .agg #[.string f.name, .int .i64 f.params, .int .i64 f.slots, .slice g3 f.code.length p3, .slice g4 f.hands.length p4, .slice g5 f.vars.length p5], .agg #[.int .i64 2, .int .i64 x, .int .i64 y]] w fun e w' => EffPost m f ⟨2, x, y⟩ w e w' := by
  obtain ⟨hI, h1, h2, h3, h4, h5, h6⟩ := h
  obtain ⟨_, ⟨gf, cf, rfl, _, _⟩, _⟩ := hI.img.funcs
  obtain ⟨gc, cc, rfl, _, _⟩ := hI.img.consts
  obtain ⟨_, ⟨gk, ck, rfl, _, _⟩, _⟩ := hI.img.classes
  have c0 := cell_al3 hI.c0
  have c1 := cell_al3 hI.c1
  have c2 := cell_al3 hI.c2
  have H := hide hI
  have hmf := mkf
  clear hI
  obtain ⟨bf, qf⟩ : ∃ c, inB y 0 50 = c := ⟨_, rfl⟩
  obtain ⟨bs, qs⟩ : ∃ c, belowB x f.slots = c := ⟨_, rfl⟩
  obtain ⟨ba, qa⟩ : ∃ c, belowB x f.code.length = c := ⟨_, rfl⟩
  obtain ⟨bn, qn⟩ : ∃ c, callB m x = c := ⟨_, rfl⟩
  obtain ⟨bx, qx⟩ : ∃ c, belowB x m.consts.length = c := ⟨_, rfl⟩
  go_enter Tryd.func30, Tryd.ntmps30
  go_wp2_with fail
  refine (within_is qf _).mono ?_
  rintro e wa ⟨rfl, rfl⟩
  go_wp2_with fail
  refine (within_bl qs _).mono ?_
  rintro e wa ⟨rfl, rfl⟩
  go_wp2_with fail
  refine (within_bl qa _).mono ?_
  rintro e wa ⟨rfl, rfl⟩
  go_wp2_with fail
  go_quiet ((go_at_call 17; exact Calls.quiet_of_same (same_back (within_cl qn _))))
  go_wp2_with fail
  obtain ⟨W1, hW1⟩ : ∃ W1, ((((w.alloc (.cells #[.pointer (some ⟨b, 0, none⟩)] 42)).alloc (.cells #[.string f.name, .int .i64 f.params, .int .i64 f.slots, .slice g3 f.code.length p3, .slice g4 f.hands.length p4, .slice g5 f.vars.length p5] 81)).alloc (.cells #[.int .i64 2, .int .i64 x, .int .i64 y] 88)).drewN nq) = W1 := ⟨_, rfl⟩
  have HB1 : Hid (Below w.heap.size w W1) := by
    show Below _ _ _
    rw [← hW1]; exact below3 _ _ _ _
  have HI1 : Hid (ImgAt W1 b m (.slice gf m.funcs.length cf) (.slice gc m.consts.length cc) (.slice gk m.classes.length ck)) := (unhide H).keep (unhide HB1)
  have k0 : W1.cell? ⟨w.heap.size, 0, none⟩ = some (.pointer (some ⟨b, 0, none⟩)) := by
    rw [← hW1]; exact cell_al (cell_al (hcell (hnew _ _) 0) _) _
  have k2 : W1.cell? ⟨w.heap.size + 1 + 1, 1, none⟩ = some (.int .i64 x) := by
    rw [← hW1]; exact eff_box w _ _ _ 1
  have k3 : W1.cell? ⟨w.heap.size + 1 + 1, 2, none⟩ = some (.int .i64 y) := by
    rw [← hW1]; exact eff_box w _ _ _ 2
  have k4 := (unhide HI1).c0
  have k5 := (unhide HI1).c1
  have k6 := (unhide HI1).c2
  rw [hW1]
  clear hW1 c0 c1 c2
  go_quiet ((go_at_call 17; exact Calls.quiet_of_same (same_back (within_bl qx _))))
  go_wp2_with fail
  exact bodyPost_ret (v := .tuple #[.bool bx, .int .i64 0, .int .i64 1, .int .i64 (-1), .int .i64 0, .bool true]) (by simp [results, Tryd.results30, go_sem]) rfl (EffPost.mk qx.symm (fun _ => rfl) ⟨rfl, rfl, rfl, rfl⟩ (Bl.drewN (unhide HB1) _))
end Go.Proofs.YtcbgcjkcfolcoaaDoor

namespace Go.Proofs.YtcbgcjkcfolcoaaDoor
open Go.RowKit

set_option maxRecDepth 100000 in
set_option maxHeartbeats 4000000 in
theorem ef_32 {w : World} {b : Nat} {m : PM} {vf vc vk : Value} {f : PF} {g3 g4 g5 : Option Addr} {p3 p4 p5 : Nat} (h : EffAsk w b m vf vc vk f g3 g4 g5 p3 p4 p5) (x y : Int) :
    Calls Tryd.prog 30 #[.pointer (some ⟨b, 0, none⟩), .agg #[.string f.name, .int .i64 f.params, .int .i64 f.slots, .slice g3 f.code.length p3, .slice g4 f.hands.length p4, .slice g5 f.vars.length p5], .agg #[.int .i64 32, .int .i64 x, .int .i64 y]] w fun e w' => EffPost m f ⟨32, x, y⟩ w e w' := by
  obtain ⟨hI, h1, h2, h3, h4, h5, h6⟩ := h
  obtain ⟨_, ⟨gf, cf, rfl, _, _⟩, _⟩ := hI.img.funcs
  obtain ⟨gc, cc, rfl, _, _⟩ := hI.img.consts
  obtain ⟨_, ⟨gk, ck, rfl, _, _⟩, _⟩ := hI.img.classes
  have c0 := cell_al3 hI.c0
  have c1 := cell_al3 hI.c1
  have c2 := cell_al3 hI.c2
  have H := hide hI
  have hmf := mkf
  clear hI
  obtain ⟨bf, qf⟩ : ∃ c, inB y 0 50 = c := ⟨_, rfl⟩
  obtain ⟨bs, qs⟩ : ∃ c, belowB x f.slots = c := ⟨_, rfl⟩
  obtain ⟨ba, qa⟩ : ∃ c, belowB x f.code.length = c := ⟨_, rfl⟩
  obtain ⟨bn, qn⟩ : ∃ c, callB m x = c := ⟨_, rfl⟩
  have HA3 : ∀ o p q n, Hid (ImgAt ((((w.alloc o).alloc p).alloc q).drewN n) b m (.slice gf m.funcs.length cf) (.slice gc m.consts.length cc) (.slice gk m.classes.length ck)) := fun o p q n => (((((unhide H).alloc o).alloc p).alloc q).drewN n)
  have HQ3 : ∀ p q n, Hid (((((w.alloc (.cells #[.pointer (some ⟨b, 0, none⟩)] 42)).alloc p).alloc q).drewN n).cell? ⟨w.heap.size, 0, none⟩ = some (.pointer (some ⟨b, 0, none⟩))) := fun p q n => cell_al (cell_al (hcell (hnew _ _) 0) p) q
  obtain ⟨bt, ht⟩ : ∃ c, isText m x = c := ⟨_, rfl⟩
  go_enter Tryd.func30, Tryd.ntmps30
  go_wp2_with fail
  refine (within_is qf _).mono ?_
  rintro e wa ⟨rfl, rfl⟩
  go_wp2_with fail
  refine (within_bl qs _).mono ?_
  rintro e wa ⟨rfl, rfl⟩
  go_wp2_with fail
  refine (within_bl qa _).mono ?_
  rintro e wa ⟨rfl, rfl⟩
  go_wp2_with fail
  go_quiet ((go_at_call 17; exact Calls.quiet_of_same (same_back (within_cl qn _))))
  go_wp2_with fail
  refine (rtext_is (unhide (HA3 _ _ _ _)) (unhide (HQ3 _ _ _)) (by omega) ht).mono ?_
  rintro e wa ⟨rfl, rfl⟩
  go_wp2_with fail
  exact bodyPost_ret (v := .tuple #[.bool bt, .int .i64 1, .int .i64 1, .int .i64 (-1), .int .i64 0, .bool true]) (by simp [results, Tryd.results30, go_sem]) rfl (EffPost.mk ht.symm (fun _ => rfl) ⟨rfl, rfl, rfl, rfl⟩ (below3 _ _ _ _))

set_option maxRecDepth 100000 in
set_option maxHeartbeats 4000000 in
theorem ef_33 {w : World} {b : Nat} {m : PM} {vf vc vk : Value} {f : PF} {g3 g4 g5 : Option Addr} {p3 p4 p5 : Nat} (h : EffAsk w b m vf vc vk f g3 g4 g5 p3 p4 p5) (x y : Int) :
    Calls Tryd.prog 30 #[.pointer (some ⟨b, 0, none⟩), .agg #[.string f.name, .int .i64 f.params, .int .i64 f.slots, .slice g3 f.code.length p3, .slice g4 f.hands.length p4, .slice g5 f.vars.length p5], .agg #[.int .i64 33, .int .i64 x, .int .i64 y]] w fun e w' => EffPost m f ⟨33, x, y⟩ w e w' := by
  obtain ⟨hI, h1, h2, h3, h4, h5, h6⟩ := h
  obtain ⟨_, ⟨gf, cf, rfl, _, _⟩, _⟩ := hI.img.funcs
  obtain ⟨gc, cc, rfl, _, _⟩ := hI.img.consts
  obtain ⟨_, ⟨gk, ck, rfl, _, _⟩, _⟩ := hI.img.classes
  have c0 := cell_al3 hI.c0
  have c1 := cell_al3 hI.c1
  have c2 := cell_al3 hI.c2
  have H := hide hI
  have hmf := mkf
  clear hI
  obtain ⟨bf, qf⟩ : ∃ c, inB y 0 50 = c := ⟨_, rfl⟩
  obtain ⟨bs, qs⟩ : ∃ c, belowB x f.slots = c := ⟨_, rfl⟩
  obtain ⟨ba, qa⟩ : ∃ c, belowB x f.code.length = c := ⟨_, rfl⟩
  obtain ⟨bn, qn⟩ : ∃ c, callB m x = c := ⟨_, rfl⟩
  have HA3 : ∀ o p q n, Hid (ImgAt ((((w.alloc o).alloc p).alloc q).drewN n) b m (.slice gf m.funcs.length cf) (.slice gc m.consts.length cc) (.slice gk m.classes.length ck)) := fun o p q n => (((((unhide H).alloc o).alloc p).alloc q).drewN n)
  have HQ3 : ∀ p q n, Hid (((((w.alloc (.cells #[.pointer (some ⟨b, 0, none⟩)] 42)).alloc p).alloc q).drewN n).cell? ⟨w.heap.size, 0, none⟩ = some (.pointer (some ⟨b, 0, none⟩))) := fun p q n => cell_al (cell_al (hcell (hnew _ _) 0) p) q
  obtain ⟨bt, ht⟩ : ∃ c, isText m x = c := ⟨_, rfl⟩
  go_enter Tryd.func30, Tryd.ntmps30
  go_wp2_with fail
  refine (within_is qf _).mono ?_
  rintro e wa ⟨rfl, rfl⟩
  go_wp2_with fail
  refine (within_bl qs _).mono ?_
  rintro e wa ⟨rfl, rfl⟩
  go_wp2_with fail
  refine (within_bl qa _).mono ?_
  rintro e wa ⟨rfl, rfl⟩
  go_wp2_with fail
  go_quiet ((go_at_call 17; exact Calls.quiet_of_same (same_back (within_cl qn _))))
  go_wp2_with fail
  refine (rtext_is (unhide (HA3 _ _ _ _)) (unhide (HQ3 _ _ _)) (by omega) ht).mono ?_
  rintro e wa ⟨rfl, rfl⟩
  go_wp2_with fail
  exact bodyPost_ret (v := .tuple #[.bool bt, .int .i64 2, .int .i64 0, .int .i64 (-1), .int .i64 0, .bool true]) (by simp [results, Tryd.results30, go_sem]) rfl (EffPost.mk ht.symm (fun _ => rfl) ⟨rfl, rfl, rfl, rfl⟩ (below3 _ _ _ _))

set_option maxRecDepth 100000 in
set_option maxHeartbeats 4000000 in
theorem ef_37 {w : World} {b : Nat} {m : PM} {vf vc vk : Value} {f : PF} {g3 g4 g5 : Option Addr} {p3 p4 p5 : Nat} (h : EffAsk w b m vf vc vk f g3 g4 g5 p3 p4 p5) (x y : Int) :
    Calls Tryd.prog 30 #[.pointer (some ⟨b, 0, none⟩), .agg #[.string f.name, .int .i64 f.params, .int .i64 f.slots, .slice g3 f.code.length p3, .slice g4 f.hands.length p4, .slice g5 f.vars.length p5], .agg #[.int .i64 37, .int .i64 x, .int .i64 y]] w fun e w' => EffPost m f ⟨37, x, y⟩ w e w' := by
  obtain ⟨hI, h1, h2, h3, h4, h5, h6⟩ := h
  obtain ⟨_, ⟨gf, cf, rfl, _, _⟩, _⟩ := hI.img.funcs
  obtain ⟨gc, cc, rfl, _, _⟩ := hI.img.consts
  obtain ⟨_, ⟨gk, ck, rfl, _, _⟩, _⟩ := hI.img.classes
  have c0 := cell_al3 hI.c0
  have c1 := cell_al3 hI.c1
  have c2 := cell_al3 hI.c2
  have H := hide hI
  have hmf := mkf
  clear hI
  obtain ⟨bs, qs⟩ : ∃ c, belowB x f.slots = c := ⟨_, rfl⟩
  obtain ⟨ba, qa⟩ : ∃ c, belowB x f.code.length = c := ⟨_, rfl⟩
  obtain ⟨bn, qn⟩ : ∃ c, callB m x = c := ⟨_, rfl⟩
  cases qf : inB y 0 50 with
  | true =>
    have hyb : 0 ≤ y ∧ y ≤ 50 := inB_true qf
    obtain ⟨hy0, hy1⟩ := hyb
    have w1 : IntKind.i64.wrap (y + 1) = y + 1 := wrap_id (by omega) (by omega)
    go_enter Tryd.func30, Tryd.ntmps30
    go_wp2_with fail
    refine (within_is qf _).mono ?_
    rintro e wa ⟨rfl, rfl⟩
    go_wp2_with fail
    refine (within_bl qs _).mono ?_
    rintro e wa ⟨rfl, rfl⟩
    go_wp2_with fail
    refine (within_bl qa _).mono ?_
    rintro e wa ⟨rfl, rfl⟩
    go_wp2_with fail
    go_quiet ((go_at_call 17; exact Calls.quiet_of_same (same_back (within_cl qn _))))
    go_wp2_with fail
    obtain ⟨W1, hW1⟩ : ∃ W1, ((((w.alloc (.cells #[.pointer (some ⟨b, 0, none⟩)] 42)).alloc (.cells #[.string f.name, .int .i64 f.params, .int .i64 f.slots, .slice g3 f.code.length p3, .slice g4 f.hands.length p4, .slice g5 f.vars.length p5] 81)).alloc (.cells #[.int .i64 37, .int .i64 x, .int .i64 y] 88)).drewN nq) = W1 := ⟨_, rfl⟩
    have HB1 : Hid (Below w.heap.size w W1) := by
      show Below _ _ _
      rw [← hW1]; exact below3 _ _ _ _
    have HI1 : Hid (ImgAt W1 b m (.slice gf m.funcs.length cf) (.slice gc m.consts.length cc) (.slice gk m.classes.length ck)) := (unhide H).keep (unhide HB1)
    have k0 : W1.cell? ⟨w.heap.size, 0, none⟩ = some (.pointer (some ⟨b, 0, none⟩)) := by
      rw [← hW1]; exact cell_al (cell_al (hcell (hnew _ _) 0) _) _
    have k2 : W1.cell? ⟨w.heap.size + 1 + 1, 1, none⟩ = some (.int .i64 x) := by
      rw [← hW1]; exact eff_box w _ _ _ 1
    have k3 : W1.cell? ⟨w.heap.size + 1 + 1, 2, none⟩ = some (.int .i64 y) := by
      rw [← hW1]; exact eff_box w _ _ _ 2
    have k4 := (unhide HI1).c0
    have k5 := (unhide HI1).c1
    have k6 := (unhide HI1).c2
    rw [hW1]
    clear hW1 c0 c1 c2
    go_quiet (fail)
    go_wp2_with fail
    exact bodyPost_ret (v := .tuple #[.bool true, .int .i64 (y + 1), .int .i64 1, .int .i64 (-1), .int .i64 0, .bool true]) (by simp [results, Tryd.results30, go_sem]) rfl (EffPost.mk qf.symm (fun _ => rfl) ⟨rfl, rfl, rfl, rfl⟩ (Bl.drewN (unhide HB1) _))
  | false =>
    go_enter Tryd.func30, Tryd.ntmps30
    go_wp2_with fail
    refine (within_is qf _).mono ?_
    rintro e wa ⟨rfl, rfl⟩
    go_wp2_with fail
    refine (within_bl qs _).mono ?_
    rintro e wa ⟨rfl, rfl⟩
    go_wp2_with fail
    refine (within_bl qa _).mono ?_
    rintro e wa ⟨rfl, rfl⟩
    go_wp2_with fail
    go_quiet ((go_at_call 17; exact Calls.quiet_of_same (same_back (within_cl qn _))))
    go_wp2_with fail
    obtain ⟨W1, hW1⟩ : ∃ W1, ((((w.alloc (.cells #[.pointer (some ⟨b, 0, none⟩)] 42)).alloc (.cells #[.string f.name, .int .i64 f.params, .int .i64 f.slots, .slice g3 f.code.length p3, .slice g4 f.hands.length p4, .slice g5 f.vars.length p5] 81)).alloc (.cells #[.int .i64 37, .int .i64 x, .int .i64 y] 88)).drewN nq) = W1 := ⟨_, rfl⟩
    have HB1 : Hid (Below w.heap.size w W1) := by
      show Below _ _ _
      rw [← hW1]; exact below3 _ _ _ _
    have HI1 : Hid (ImgAt W1 b m (.slice gf m.funcs.length cf) (.slice gc m.consts.length cc) (.slice gk m.classes.length ck)) := (unhide H).keep (unhide HB1)
    have k0 : W1.cell? ⟨w.heap.size, 0, none⟩ = some (.pointer (some ⟨b, 0, none⟩)) := by
      rw [← hW1]; exact cell_al (cell_al (hcell (hnew _ _) 0) _) _
    have k2 : W1.cell? ⟨w.heap.size + 1 + 1, 1, none⟩ = some (.int .i64 x) := by
      rw [← hW1]; exact eff_box w _ _ _ 1
    have k3 : W1.cell? ⟨w.heap.size + 1 + 1, 2, none⟩ = some (.int .i64 y) := by
      rw [← hW1]; exact eff_box w _ _ _ 2
    have k4 := (unhide HI1).c0
    have k5 := (unhide HI1).c1
    have k6 := (unhide HI1).c2
    rw [hW1]
    clear hW1 c0 c1 c2
    go_quiet (fail)
    go_wp2_with fail
    exact bodyPost_ret (v := .tuple #[.bool false, .int .i64 (wrap64 (y + 1)), .int .i64 1, .int .i64 (-1), .int .i64 0, .bool true]) (by simp [results, Tryd.results30, go_sem]) rfl (EffPost.mk qf.symm (fun h => by cases h) ⟨rfl, rfl, rfl, rfl⟩ (Bl.drewN (unhide HB1) _))

set_option maxRecDepth 100000 in
set_option maxHeartbeats 4000000 in
theorem ef_34 {w : World} {b : Nat} {m : PM} {vf vc vk : Value} {f : PF} {g3 g4 g5 : Option Addr} {p3 p4 p5 : Nat} (h : EffAsk w b m vf vc vk f g3 g4 g5 p3 p4 p5) (x y : Int) :
    Calls Tryd.prog 30 #[.pointer (some ⟨b, 0, none⟩), .agg #[.string f.name, .int .i64 f.params, .int .i64 f.slots, .slice g3 f.code.length p3, .slice g4 f.hands.length p4, .slice g5 f.vars.length p5], .agg #[.int .i64 34, .int .i64 x, .int .i64 y]] w fun e w' => EffPost m f ⟨34, x, y⟩ w e w' := by
  obtain ⟨hI, h1, h2, h3, h4, h5, h6⟩ := h
  obtain ⟨_, ⟨gf, cf, rfl, _, _⟩, _⟩ := hI.img.funcs
  obtain ⟨gc, cc, rfl, _, _⟩ := hI.img.consts
  obtain ⟨_, ⟨gk, ck, rfl, _, _⟩, _⟩ := hI.img.classes
  have c0 := cell_al3 hI.c0
  have c1 := cell_al3 hI.c1
  have c2 := cell_al3 hI.c2
  have H := hide hI
  have hmf := mkf
  clear hI
  obtain ⟨bs, qs⟩ : ∃ c, belowB x f.slots = c := ⟨_, rfl⟩
  obtain ⟨ba, qa⟩ : ∃ c, belowB x f.code.length = c := ⟨_, rfl⟩
  obtain ⟨bn, qn⟩ : ∃ c, callB m x = c := ⟨_, rfl⟩
  have HD : Hid (nameOk m f.slots f.code.length ⟨34, x, y⟩ = (isText m x && inB y 0 50)) := rfl
  cases qf : inB y 0 50 with
  | true =>
    have hyb : 0 ≤ y ∧ y ≤ 50 := inB_true qf
    obtain ⟨hy0, hy1⟩ := hyb
    have w1 : IntKind.i64.wrap (y + 1) = y + 1 := wrap_id (by omega) (by omega)
    cases ht : isText m x with
    | true =>
      go_enter Tryd.func30, Tryd.ntmps30
      go_wp2_with fail
      refine (within_is qf _).mono ?_
      rintro e wa ⟨rfl, rfl⟩
      go_wp2_with fail
      refine (within_bl qs _).mono ?_
      rintro e wa ⟨rfl, rfl⟩
      go_wp2_with fail
      refine (within_bl qa _).mono ?_
      rintro e wa ⟨rfl, rfl⟩
      go_wp2_with fail
      go_quiet ((go_at_call 17; exact Calls.quiet_of_same (same_back (within_cl qn _))))
      go_wp2_with fail
      obtain ⟨W1, hW1⟩ : ∃ W1, ((((w.alloc (.cells #[.pointer (some ⟨b, 0, none⟩)] 42)).alloc (.cells #[.string f.name, .int .i64 f.params, .int .i64 f.slots, .slice g3 f.code.length p3, .slice g4 f.hands.length p4, .slice g5 f.vars.length p5] 81)).alloc (.cells #[.int .i64 34, .int .i64 x, .int .i64 y] 88)).drewN nq) = W1 := ⟨_, rfl⟩
      have HB1 : Hid (Below w.heap.size w W1) := by
        show Below _ _ _
        rw [← hW1]; exact below3 _ _ _ _
      have HI1 : Hid (ImgAt W1 b m (.slice gf m.funcs.length cf) (.slice gc m.consts.length cc) (.slice gk m.classes.length ck)) := (unhide H).keep (unhide HB1)
      have k0 : W1.cell? ⟨w.heap.size, 0, none⟩ = some (.pointer (some ⟨b, 0, none⟩)) := by
        rw [← hW1]; exact cell_al (cell_al (hcell (hnew _ _) 0) _) _
      have k2 : W1.cell? ⟨w.heap.size + 1 + 1, 1, none⟩ = some (.int .i64 x) := by
        rw [← hW1]; exact eff_box w _ _ _ 1
      have k3 : W1.cell? ⟨w.heap.size + 1 + 1, 2, none⟩ = some (.int .i64 y) := by
        rw [← hW1]; exact eff_box w _ _ _ 2
      have k4 := (unhide HI1).c0
      have k5 := (unhide HI1).c1
      have k6 := (unhide HI1).c2
      rw [hW1]
      clear hW1 c0 c1 c2
      go_quiet ((go_at_call 38; exact Calls.quiet_of_same (same_back (rtext_is ((unhide HI1).drewN _) k0 (by omega) ht))))
      go_wp2_with fail
      exact bodyPost_ret (v := .tuple #[.bool true, .int .i64 (y + 1), .int .i64 1, .int .i64 (-1), .int .i64 0, .bool true]) (by simp [results, Tryd.results30, go_sem]) rfl (EffPost.mk (by rw [unhide HD, ht, qf]; rfl) (fun _ => rfl) ⟨rfl, rfl, rfl, rfl⟩ (Bl.drewN (unhide HB1) _))
    | false =>
      go_enter Tryd.func30, Tryd.ntmps30
      go_wp2_with fail
      refine (within_is qf _).mono ?_
      rintro e wa ⟨rfl, rfl⟩
      go_wp2_with fail
      refine (within_bl qs _).mono ?_
      rintro e wa ⟨rfl, rfl⟩
      go_wp2_with fail
      refine (within_bl qa _).mono ?_
      rintro e wa ⟨rfl, rfl⟩
      go_wp2_with fail
      go_quiet ((go_at_call 17; exact Calls.quiet_of_same (same_back (within_cl qn _))))
      go_wp2_with fail
      obtain ⟨W1, hW1⟩ : ∃ W1, ((((w.alloc (.cells #[.pointer (some ⟨b, 0, none⟩)] 42)).alloc (.cells #[.string f.name, .int .i64 f.params, .int .i64 f.slots, .slice g3 f.code.length p3, .slice g4 f.hands.length p4, .slice g5 f.vars.length p5] 81)).alloc (.cells #[.int .i64 34, .int .i64 x, .int .i64 y] 88)).drewN nq) = W1 := ⟨_, rfl⟩
      have HB1 : Hid (Below w.heap.size w W1) := by
        show Below _ _ _
        rw [← hW1]; exact below3 _ _ _ _
      have HI1 : Hid (ImgAt W1 b m (.slice gf m.funcs.length cf) (.slice gc m.consts.length cc) (.slice gk m.classes.length ck)) := (unhide H).keep (unhide HB1)
      have k0 : W1.cell? ⟨w.heap.size, 0, none⟩ = some (.pointer (some ⟨b, 0, none⟩)) := by
        rw [← hW1]; exact cell_al (cell_al (hcell (hnew _ _) 0) _) _
      have k2 : W1.cell? ⟨w.heap.size + 1 + 1, 1, none⟩ = some (.int .i64 x) := by
        rw [← hW1]; exact eff_box w _ _ _ 1
      have k3 : W1.cell? ⟨w.heap.size + 1 + 1, 2, none⟩ = some (.int .i64 y) := by
        rw [← hW1]; exact eff_box w _ _ _ 2
      have k4 := (unhide HI1).c0
      have k5 := (unhide HI1).c1
      have k6 := (unhide HI1).c2
      rw [hW1]
      clear hW1 c0 c1 c2
      go_quiet ((go_at_call 38; exact Calls.quiet_of_same (same_back (rtext_is ((unhide HI1).drewN _) k0 (by omega) ht))))
      go_wp2_with fail
      exact bodyPost_ret (v := .tuple #[.bool false, .int .i64 (y + 1), .int .i64 1, .int .i64 (-1), .int .i64 0, .bool true]) (by simp [results, Tryd.results30, go_sem]) rfl (EffPost.mk (by rw [unhide HD, ht]; rfl) (fun h => by cases h) ⟨rfl, rfl, rfl, rfl⟩ (Bl.drewN (unhide HB1) _))
  | false =>
    cases ht : isText m x with
    | true =>
      go_enter Tryd.func30, Tryd.ntmps30
      go_wp2_with fail
      refine (within_is qf _).mono ?_
      rintro e wa ⟨rfl, rfl⟩
      go_wp2_with fail
      refine (within_bl qs _).mono ?_
      rintro e wa ⟨rfl, rfl⟩
      go_wp2_with fail
      refine (within_bl qa _).mono ?_
      rintro e wa ⟨rfl, rfl⟩
      go_wp2_with fail
      go_quiet ((go_at_call 17; exact Calls.quiet_of_same (same_back (within_cl qn _))))
      go_wp2_with fail
      obtain ⟨W1, hW1⟩ : ∃ W1, ((((w.alloc (.cells #[.pointer (some ⟨b, 0, none⟩)] 42)).alloc (.cells #[.string f.name, .int .i64 f.params, .int .i64 f.slots, .slice g3 f.code.length p3, .slice g4 f.hands.length p4, .slice g5 f.vars.length p5] 81)).alloc (.cells #[.int .i64 34, .int .i64 x, .int .i64 y] 88)).drewN nq) = W1 := ⟨_, rfl⟩
      have HB1 : Hid (Below w.heap.size w W1) := by
        show Below _ _ _
        rw [← hW1]; exact below3 _ _ _ _
      have HI1 : Hid (ImgAt W1 b m (.slice gf m.funcs.length cf) (.slice gc m.consts.length cc) (.slice gk m.classes.length ck)) := (unhide H).keep (unhide HB1)
      have k0 : W1.cell? ⟨w.heap.size, 0, none⟩ = some (.pointer (some ⟨b, 0, none⟩)) := by
        rw [← hW1]; exact cell_al (cell_al (hcell (hnew _ _) 0) _) _
      have k2 : W1.cell? ⟨w.heap.size + 1 + 1, 1, none⟩ = some (.int .i64 x) := by
        rw [← hW1]; exact eff_box w _ _ _ 1
      have k3 : W1.cell? ⟨w.heap.size + 1 + 1, 2, none⟩ = some (.int .i64 y) := by
        rw [← hW1]; exact eff_box w _ _ _ 2
      have k4 := (unhide HI1).c0
      have k5 := (unhide HI1).c1
      have k6 := (unhide HI1).c2
      rw [hW1]
      clear hW1 c0 c1 c2
      go_quiet ((go_at_call 38; exact Calls.quiet_of_same (same_back (rtext_is ((unhide HI1).drewN _) k0 (by omega) ht))))
      go_wp2_with fail
      exact bodyPost_ret (v := .tuple #[.bool false, .int .i64 (wrap64 (y + 1)), .int .i64 1, .int .i64 (-1), .int .i64 0, .bool true]) (by simp [results, Tryd.results30, go_sem]) rfl (EffPost.mk (by rw [unhide HD, ht, qf]; rfl) (fun h => by cases h) ⟨rfl, rfl, rfl, rfl⟩ (Bl.drewN (unhide HB1) _))
    | false =>
      go_enter Tryd.func30, Tryd.ntmps30
      go_wp2_with fail
      refine (within_is qf _).mono ?_
      rintro e wa ⟨rfl, rfl⟩
      go_wp2_with fail
      refine (within_bl qs _).mono ?_
      rintro e wa ⟨rfl, rfl⟩
      go_wp2_with fail
      refine (within_bl qa _).mono ?_
      rintro e wa ⟨rfl, rfl⟩
      go_wp2_with fail
      go_quiet ((go_at_call 17; exact Calls.quiet_of_same (same_back (within_cl qn _))))
      go_wp2_with fail
      obtain ⟨W1, hW1⟩ : ∃ W1, ((((w.alloc (.cells #[.pointer (some ⟨b, 0, none⟩)] 42)).alloc (.cells #[.string f.name, .int .i64 f.params, .int .i64 f.slots, .slice g3 f.code.length p3, .slice g4 f.hands.length p4, .slice g5 f.vars.length p5] 81)).alloc (.cells #[.int .i64 34, .int .i64 x, .int .i64 y] 88)).drewN nq) = W1 := ⟨_, rfl⟩
      have HB1 : Hid (Below w.heap.size w W1) := by
        show Below _ _ _
        rw [← hW1]; exact below3 _ _ _ _
      have HI1 : Hid (ImgAt W1 b m (.slice gf m.funcs.length cf) (.slice gc m.consts.length cc) (.slice gk m.classes.length ck)) := (unhide H).keep (unhide HB1)
      have k0 : W1.cell? ⟨w.heap.size, 0, none⟩ = some (.pointer (some ⟨b, 0, none⟩)) := by
        rw [← hW1]; exact cell_al (cell_al (hcell (hnew _ _) 0) _) _
      have k2 : W1.cell? ⟨w.heap.size + 1 + 1, 1, none⟩ = some (.int .i64 x) := by
        rw [← hW1]; exact eff_box w _ _ _ 1
      have k3 : W1.cell? ⟨w.heap.size + 1 + 1, 2, none⟩ = some (.int .i64 y) := by
        rw [← hW1]; exact eff_box w _ _ _ 2
      have k4 := (unhide HI1).c0
      have k5 := (unhide HI1).c1
      have k6 := (unhide HI1).c2
      rw [hW1]
      clear hW1 c0 c1 c2
      go_quiet ((go_at_call 38; exact Calls.quiet_of_same (same_back (rtext_is ((unhide HI1).drewN _) k0 (by omega) ht))))
      go_wp2_with fail
      exact bodyPost_ret (v := .tuple #[.bool false, .int .i64 (wrap64 (y + 1)), .int .i64 1, .int .i64 (-1), .int .i64 0, .bool true]) (by simp [results, Tryd.results30, go_sem]) rfl (EffPost.mk (by rw [unhide HD, ht]; rfl) (fun h => by cases h) ⟨rfl, rfl, rfl, rfl⟩ (Bl.drewN (unhide HB1) _))
end Go.Proofs.YtcbgcjkcfolcoaaDoor

namespace Go.Proofs.YtcbgcjkcfolcoaaDoor
open Go.RowKit

set_option maxRecDepth 100000 in
set_option maxHeartbeats 4000000 in
theorem ef_36 {w : World} {b : Nat} {m : PM} {vf vc vk : Value} {f : PF} {g3 g4 g5 : Option Addr} {p3 p4 p5 : Nat} (h : EffAsk w b m vf vc vk f g3 g4 g5 p3 p4 p5) (x y : Int) :
    Calls Tryd.prog 30 #[.pointer (some ⟨b, 0, none⟩), .agg #[.string f.name, .int .i64 f.params, .int .i64 f.slots, .slice g3 f.code.length p3, .slice g4 f.hands.length p4, .slice g5 f.vars.length p5], .agg #[.int .i64 36, .int .i64 x, .int .i64 y]] w fun e w' => EffPost m f ⟨36, x, y⟩ w e w' := by
  obtain ⟨hI, h1, h2, h3, h4, h5, h6⟩ := h
  obtain ⟨_, ⟨gf, cf, rfl, _, _⟩, _⟩ := hI.img.funcs
  obtain ⟨gc, cc, rfl, _, _⟩ := hI.img.consts
  obtain ⟨_, ⟨gk, ck, rfl, _, _⟩, _⟩ := hI.img.classes
  have c0 := cell_al3 hI.c0
  have c1 := cell_al3 hI.c1
  have c2 := cell_al3 hI.c2
  have H := hide hI
  have hmf := mkf
  clear hI
  obtain ⟨bs, qs⟩ : ∃ c, belowB x f.slots = c := ⟨_, rfl⟩
  obtain ⟨ba, qa⟩ : ∃ c, belowB x f.code.length = c := ⟨_, rfl⟩
  obtain ⟨bn, qn⟩ : ∃ c, callB m x = c := ⟨_, rfl⟩
  have HD : Hid (nameOk m f.slots f.code.length ⟨36, x, y⟩ = (belowB x m.classes.length && inB y 0 50)) := rfl
  obtain ⟨bf, qf⟩ : ∃ c, inB y 0 50 = c := ⟨_, rfl⟩
  cases qx : belowB x m.classes.length with
  | true =>
    go_enter Tryd.func30, Tryd.ntmps30
    go_wp2_with fail
    refine (within_is qf _).mono ?_
    rintro e wa ⟨rfl, rfl⟩
    go_wp2_with fail
    refine (within_bl qs _).mono ?_
    rintro e wa ⟨rfl, rfl⟩
    go_wp2_with fail
    refine (within_bl qa _).mono ?_
    rintro e wa ⟨rfl, rfl⟩
    go_wp2_with fail
    go_quiet ((go_at_call 17; exact Calls.quiet_of_same (same_back (within_cl qn _))))
    go_wp2_with fail
    obtain ⟨W1, hW1⟩ : ∃ W1, ((((w.alloc (.cells #[.pointer (some ⟨b, 0, none⟩)] 42)).alloc (.cells #[.string f.name, .int .i64 f.params, .int .i64 f.slots, .slice g3 f.code.length p3, .slice g4 f.hands.length p4, .slice g5 f.vars.length p5] 81)).alloc (.cells #[.int .i64 36, .int .i64 x, .int .i64 y] 88)).drewN nq) = W1 := ⟨_, rfl⟩
    have HB1 : Hid (Below w.heap.size w W1) := by
      show Below _ _ _
      rw [← hW1]; exact below3 _ _ _ _
    have HI1 : Hid (ImgAt W1 b m (.slice gf m.funcs.length cf) (.slice gc m.consts.length cc) (.slice gk m.classes.length ck)) := (unhide H).keep (unhide HB1)
    have k0 : W1.cell? ⟨w.heap.size, 0, none⟩ = some (.pointer (some ⟨b, 0, none⟩)) := by
      rw [← hW1]; exact cell_al (cell_al (hcell (hnew _ _) 0) _) _
    have k2 : W1.cell? ⟨w.heap.size + 1 + 1, 1, none⟩ = some (.int .i64 x) := by
      rw [← hW1]; exact eff_box w _ _ _ 1
    have k3 : W1.cell? ⟨w.heap.size + 1 + 1, 2, none⟩ = some (.int .i64 y) := by
      rw [← hW1]; exact eff_box w _ _ _ 2
    have k4 := (unhide HI1).c0
    have k5 := (unhide HI1).c1
    have k6 := (unhide HI1).c2
    rw [hW1]
    clear hW1 c0 c1 c2
    go_quiet ((go_at_call 17; exact Calls.quiet_of_same (same_back (within_bl qx _))))
    go_wp2_with fail
    exact bodyPost_ret (v := .tuple #[.bool bf, .int .i64 y, .int .i64 1, .int .i64 (-1), .int .i64 0, .bool true]) (by simp [results, Tryd.results30, go_sem]) rfl (EffPost.mk (by rw [unhide HD, qx, qf]; rfl) (fun _ => rfl) ⟨rfl, rfl, rfl, rfl⟩ (Bl.drewN (unhide HB1) _))
  | false =>
    go_enter Tryd.func30, Tryd.ntmps30
    go_wp2_with fail
    refine (within_is qf _).mono ?_
    rintro e wa ⟨rfl, rfl⟩
    go_wp2_with fail
    refine (within_bl qs _).mono ?_
    rintro e wa ⟨rfl, rfl⟩
    go_wp2_with fail
    refine (within_bl qa _).mono ?_
    rintro e wa ⟨rfl, rfl⟩
    go_wp2_with fail
    go_quiet ((go_at_call 17; exact Calls.quiet_of_same (same_back (within_cl qn _))))
    go_wp2_with fail
    obtain ⟨W1, hW1⟩ : ∃ W1, ((((w.alloc (.cells #[.pointer (some ⟨b, 0, none⟩)] 42)).alloc (.cells #[.string f.name, .int .i64 f.params, .int .i64 f.slots, .slice g3 f.code.length p3, .slice g4 f.hands.length p4, .slice g5 f.vars.length p5] 81)).alloc (.cells #[.int .i64 36, .int .i64 x, .int .i64 y] 88)).drewN nq) = W1 := ⟨_, rfl⟩
    have HB1 : Hid (Below w.heap.size w W1) := by
      show Below _ _ _
      rw [← hW1]; exact below3 _ _ _ _
    have HI1 : Hid (ImgAt W1 b m (.slice gf m.funcs.length cf) (.slice gc m.consts.length cc) (.slice gk m.classes.length ck)) := (unhide H).keep (unhide HB1)
    have k0 : W1.cell? ⟨w.heap.size, 0, none⟩ = some (.pointer (some ⟨b, 0, none⟩)) := by
      rw [← hW1]; exact cell_al (cell_al (hcell (hnew _ _) 0) _) _
    have k2 : W1.cell? ⟨w.heap.size + 1 + 1, 1, none⟩ = some (.int .i64 x) := by
      rw [← hW1]; exact eff_box w _ _ _ 1
    have k3 : W1.cell? ⟨w.heap.size + 1 + 1, 2, none⟩ = some (.int .i64 y) := by
      rw [← hW1]; exact eff_box w _ _ _ 2
    have k4 := (unhide HI1).c0
    have k5 := (unhide HI1).c1
    have k6 := (unhide HI1).c2
    rw [hW1]
    clear hW1 c0 c1 c2
    go_quiet ((go_at_call 17; exact Calls.quiet_of_same (same_back (within_bl qx _))))
    go_wp2_with fail
    exact bodyPost_ret (v := .tuple #[.bool false, .int .i64 y, .int .i64 1, .int .i64 (-1), .int .i64 0, .bool true]) (by simp [results, Tryd.results30, go_sem]) rfl (EffPost.mk (by rw [unhide HD, qx]; rfl) (fun h => by cases h) ⟨rfl, rfl, rfl, rfl⟩ (Bl.drewN (unhide HB1) _))

set_option maxRecDepth 100000 in
set_option maxHeartbeats 4000000 in
theorem ef_39 {w : World} {b : Nat} {m : PM} {vf vc vk : Value} {f : PF} {g3 g4 g5 : Option Addr} {p3 p4 p5 : Nat} (h : EffAsk w b m vf vc vk f g3 g4 g5 p3 p4 p5) (x y : Int) :
    Calls Tryd.prog 30 #[.pointer (some ⟨b, 0, none⟩), .agg #[.string f.name, .int .i64 f.params, .int .i64 f.slots, .slice g3 f.code.length p3, .slice g4 f.hands.length p4, .slice g5 f.vars.length p5], .agg #[.int .i64 39, .int .i64 x, .int .i64 y]] w fun e w' => EffPost m f ⟨39, x, y⟩ w e w' := by
  obtain ⟨hI, h1, h2, h3, h4, h5, h6⟩ := h
  obtain ⟨_, ⟨gf, cf, rfl, _, _⟩, _⟩ := hI.img.funcs
  obtain ⟨gc, cc, rfl, _, _⟩ := hI.img.consts
  obtain ⟨_, ⟨gk, ck, rfl, _, _⟩, _⟩ := hI.img.classes
  have c0 := cell_al3 hI.c0
  have c1 := cell_al3 hI.c1
  have c2 := cell_al3 hI.c2
  have H := hide hI
  have hmf := mkf
  clear hI
  obtain ⟨bs, qs⟩ : ∃ c, belowB x f.slots = c := ⟨_, rfl⟩
  obtain ⟨ba, qa⟩ : ∃ c, belowB x f.code.length = c := ⟨_, rfl⟩
  have HD : Hid (nameOk m f.slots f.code.length ⟨39, x, y⟩ = (callB m x && inB y 0 50)) := rfl
  obtain ⟨bf, qf⟩ : ∃ c, inB y 0 50 = c := ⟨_, rfl⟩
  cases qn : callB m x with
  | true =>
    go_enter Tryd.func30, Tryd.ntmps30
    go_wp2_with fail
    refine (within_is qf _).mono ?_
    rintro e wa ⟨rfl, rfl⟩
    go_wp2_with fail
    refine (within_bl qs _).mono ?_
    rintro e wa ⟨rfl, rfl⟩
    go_wp2_with fail
    refine (within_bl qa _).mono ?_
    rintro e wa ⟨rfl, rfl⟩
    go_wp2_with fail
    go_quiet ((go_at_call 17; exact Calls.quiet_of_same (same_back (within_cl qn _))))
    go_wp2_with fail
    obtain ⟨W1, hW1⟩ : ∃ W1, ((((w.alloc (.cells #[.pointer (some ⟨b, 0, none⟩)] 42)).alloc (.cells #[.string f.name, .int .i64 f.params, .int .i64 f.slots, .slice g3 f.code.length p3, .slice g4 f.hands.length p4, .slice g5 f.vars.length p5] 81)).alloc (.cells #[.int .i64 39, .int .i64 x, .int .i64 y] 88)).drewN nq) = W1 := ⟨_, rfl⟩
    have HB1 : Hid (Below w.heap.size w W1) := by
      show Below _ _ _
      rw [← hW1]; exact below3 _ _ _ _
    have HI1 : Hid (ImgAt W1 b m (.slice gf m.funcs.length cf) (.slice gc m.consts.length cc) (.slice gk m.classes.length ck)) := (unhide H).keep (unhide HB1)
    have k0 : W1.cell? ⟨w.heap.size, 0, none⟩ = some (.pointer (some ⟨b, 0, none⟩)) := by
      rw [← hW1]; exact cell_al (cell_al (hcell (hnew _ _) 0) _) _
    have k2 : W1.cell? ⟨w.heap.size + 1 + 1, 1, none⟩ = some (.int .i64 x) := by
      rw [← hW1]; exact eff_box w _ _ _ 1
    have k3 : W1.cell? ⟨w.heap.size + 1 + 1, 2, none⟩ = some (.int .i64 y) := by
      rw [← hW1]; exact eff_box w _ _ _ 2
    have k4 := (unhide HI1).c0
    have k5 := (unhide HI1).c1
    have k6 := (unhide HI1).c2
    rw [hW1]
    clear hW1 c0 c1 c2
    go_quiet (fail)
    go_wp2_with fail
    exact bodyPost_ret (v := .tuple #[.bool bf, .int .i64 y, .int .i64 1, .int .i64 (-1), .int .i64 0, .bool true]) (by simp [results, Tryd.results30, go_sem]) rfl (EffPost.mk (by rw [unhide HD, qn, qf]; rfl) (fun _ => rfl) ⟨rfl, rfl, rfl, rfl⟩ (Bl.drewN (unhide HB1) _))
  | false =>
    go_enter Tryd.func30, Tryd.ntmps30
    go_wp2_with fail
    refine (within_is qf _).mono ?_
    rintro e wa ⟨rfl, rfl⟩
    go_wp2_with fail
    refine (within_bl qs _).mono ?_
    rintro e wa ⟨rfl, rfl⟩
    go_wp2_with fail
    refine (within_bl qa _).mono ?_
    rintro e wa ⟨rfl, rfl⟩
    go_wp2_with fail
    go_quiet ((go_at_call 17; exact Calls.quiet_of_same (same_back (within_cl qn _))))
    go_wp2_with fail
    obtain ⟨W1, hW1⟩ : ∃ W1, ((((w.alloc (.cells #[.pointer (some ⟨b, 0, none⟩)] 42)).alloc (.cells #[.string f.name, .int .i64 f.params, .int .i64 f.slots, .slice g3 f.code.length p3, .slice g4 f.hands.length p4, .slice g5 f.vars.length p5] 81)).alloc (.cells #[.int .i64 39, .int .i64 x, .int .i64 y] 88)).drewN nq) = W1 := ⟨_, rfl⟩
    have HB1 : Hid (Below w.heap.size w W1) := by
      show Below _ _ _
      rw [← hW1]; exact below3 _ _ _ _
    have HI1 : Hid (ImgAt W1 b m (.slice gf m.funcs.length cf) (.slice gc m.consts.length cc) (.slice gk m.classes.length ck)) := (unhide H).keep (unhide HB1)
    have k0 : W1.cell? ⟨w.heap.size, 0, none⟩ = some (.pointer (some ⟨b, 0, none⟩)) := by
      rw [← hW1]; exact cell_al (cell_al (hcell (hnew _ _) 0) _) _
    have k2 : W1.cell? ⟨w.heap.size + 1 + 1, 1, none⟩ = some (.int .i64 x) := by
      rw [← hW1]; exact eff_box w _ _ _ 1
    have k3 : W1.cell? ⟨w.heap.size + 1 + 1, 2, none⟩ = some (.int .i64 y) := by
      rw [← hW1]; exact eff_box w _ _ _ 2
    have k4 := (unhide HI1).c0
    have k5 := (unhide HI1).c1
    have k6 := (unhide HI1).c2
    rw [hW1]
    clear hW1 c0 c1 c2
    go_quiet (fail)
    go_wp2_with fail
    exact bodyPost_ret (v := .tuple #[.bool false, .int .i64 y, .int .i64 1, .int .i64 (-1), .int .i64 0, .bool true]) (by simp [results, Tryd.results30, go_sem]) rfl (EffPost.mk (by rw [unhide HD, qn]; rfl) (fun h => by cases h) ⟨rfl, rfl, rfl, rfl⟩ (Bl.drewN (unhide HB1) _))
end Go.Proofs.YtcbgcjkcfolcoaaDoor
