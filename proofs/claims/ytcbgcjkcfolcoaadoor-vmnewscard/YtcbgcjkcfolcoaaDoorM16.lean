/-
  The document's table of instructions (nine).
  The document's table of instructions (all).
-/
import Derived.Test.YtcbgcjkcfolcoaaDoorM15
import Derived.Lib.MinMax
namespace Go.Proofs.YtcbgcjkcfolcoaaDoor
open Go.RowKit

set_option maxRecDepth 100000 in
set_option maxHeartbeats 4000000 in
theorem ef_38 {w : World} {b : Nat} {m : PM} {vf vc vk : Value} {f : PF} {g3 g4 g5 : Option Addr} {p3 p4 p5 : Nat} (h : EffAsk w b m vf vc vk f g3 g4 g5 p3 p4 p5) (x y : Int) :
    Calls Tryd.prog 30 #[.pointer (some ⟨b, 0, none⟩), .agg #[.string f.name, .int .i64 f.params, .int .i64 f.slots, .slice g3 f.code.length p3, .slice g4 f.hands.length p4, .slice g5 f.vars.length p5], .agg #[.int .i64 38, .int .i64 x, .int .i64 y]] w fun e w' => EffPost m f ⟨38, x, y⟩ w e w' := by
  obtain ⟨hI, h1, h2, h3, h4, h5, h6⟩ := h
  obtain ⟨_, ⟨gf, cf, rfl, _, _⟩, _⟩ := hI.img.funcs
  obtain ⟨gc, cc, rfl, _, _⟩ := hI.img.consts
  obtain ⟨_, ⟨gk, ck, rfl, _, _⟩, _⟩ := hI.img.classes
  have c0 := cell_al3 hI.c0
  have c1 := cell_al3 hI.c1
  have c2 := cell_al3 hI.c2
  have H := hide hI
  have hmf := mkf
  clear hI
  obtain ⟨bs, qs⟩ : ∃ c, belowB x f.slots = c := ⟨_, rfl⟩
  obtain ⟨ba, qa⟩ : ∃ c, belowB x f.code.length = c := ⟨_, rfl⟩
  have HD : Hid (nameOk m f.slots f.code.length ⟨38, x, y⟩ = (callB m x && (y == (funcAt m x).params) && inB y 0 50)) := rfl
  cases qn : callB m x with
  | true =>
    cases qf : inB y 0 50 with
    | true =>
      have hx : belowB x m.funcs.length = true := by
        have := qn
        unfold callB at this
        rw [Bool.and_eq_true] at this
        exact this.2
      obtain ⟨hx1, hx2⟩ := belowB_true hx
      obtain ⟨k, rfl⟩ := Int.eq_ofNat_of_zero_le hx1
      have hx3 : (k : Int) ≤ (m.funcs.length : Int) - 1 := by omega
      have mn : min (k : Int) ((m.funcs.length : Int) - 1) = k := Int.min_eq_left hx3
      have mx : max 0 (k : Int) = k := Int.max_eq_right hx1
      have mn2 : (if (m.funcs.length : Int) - 1 < (k : Int) then (m.funcs.length : Int) - 1 else (k : Int)) = k := by rw [if_neg (by omega)]
      have mx2 : (if 0 < (k : Int) then (k : Int) else 0) = k := by split <;> omega
      have ws : IntKind.i64.wrap ((m.funcs.length : Int) - 1) = (m.funcs.length : Int) - 1 := wrap_id (by omega) (by omega)
      obtain ⟨R, ⟨g', cap', hvv, _, hr⟩, hR⟩ := (unhide H).img.funcs
      cases hvv
      have hk : m.funcs[k]? = some (m.funcs[k]'(by omega)) := List.getElem?_eq_getElem _
      obtain ⟨gb, go, rfl, hF⟩ := FnAt.of_rows hr (i := k) (by omega) (hR k _ hk)
      have HP : Hid ((funcAt m k).params = (m.funcs[k]'(by omega)).params) := by
        show (funcAt m k).params = _
        simp [funcAt, List.getD, hk]
      have HF1 := hide hF.c1
      have HX : Hid ((y == (m.funcs[k]'(by omega)).params) = ((m.funcs[k]'(by omega)).params == y)) := by
        show _ = _
        rw [Bool.eq_iff_iff, beq_iff_eq, beq_iff_eq]; exact ⟨fun h => h.symm, fun h => h.symm⟩
      clear hF hr hR hk hx
      generalize (m.funcs[k]'(by omega)).params = p at *
      go_enter Tryd.func30, Tryd.ntmps30
      go_wp2_with fail
      refine (within_is qf _).mono ?_
      rintro e wa ⟨rfl, rfl⟩
      go_wp2_with fail
      refine (within_bl qs _).mono ?_
      rintro e wa ⟨rfl, rfl⟩
      go_wp2_with fail
      refine (within_bl qa _).mono ?_
      rintro e wa ⟨rfl, rfl⟩
      go_wp2_with fail
      go_quiet ((go_at_call 17; exact Calls.quiet_of_same (same_back (within_cl qn _))))
      go_wp2_with fail
      obtain ⟨W1, hW1⟩ : ∃ W1, ((((w.alloc (.cells #[.pointer (some ⟨b, 0, none⟩)] 42)).alloc (.cells #[.string f.name, .int .i64 f.params, .int .i64 f.slots, .slice g3 f.code.length p3, .slice g4 f.hands.length p4, .slice g5 f.vars.length p5] 81)).alloc (.cells #[.int .i64 38, .int .i64 k, .int .i64 y] 88)).drewN nq) = W1 := ⟨_, rfl⟩
      have HB1 : Hid (Below w.heap.size w W1) := by
        show Below _ _ _
        rw [← hW1]; exact below3 _ _ _ _
      have HI1 : Hid (ImgAt W1 b m (.slice (some ⟨gb, go, none⟩) m.funcs.length cf) (.slice gc m.consts.length cc) (.slice gk m.classes.length ck)) := (unhide H).keep (unhide HB1)
      have k0 : W1.cell? ⟨w.heap.size, 0, none⟩ = some (.pointer (some ⟨b, 0, none⟩)) := by
        rw [← hW1]; exact cell_al (cell_al (hcell (hnew _ _) 0) _) _
      have k2 : W1.cell? ⟨w.heap.size + 1 + 1, 1, none⟩ = some (.int .i64 k) := by
        rw [← hW1]; exact eff_box w _ _ _ 1
      have k3 : W1.cell? ⟨w.heap.size + 1 + 1, 2, none⟩ = some (.int .i64 y) := by
        rw [← hW1]; exact eff_box w _ _ _ 2
      have k4 := (unhide HI1).c0
      have k5 := (unhide HI1).c1
      have k6 := (unhide HI1).c2
      have k7 := cellk (unhide HB1) (unhide HF1) (cell_lt (unhide HF1))
      rw [hW1]
      clear hW1 c0 c1 c2
      go_quiet (fail)
      go_wp2_with fail
      exact bodyPost_ret (v := .tuple #[.bool (p == y), .int .i64 y, .int .i64 1, .int .i64 (-1), .int .i64 0, .bool true]) (by simp [results, Tryd.results30, go_sem]) rfl (EffPost.mk (by rw [unhide HD, qn, qf, unhide HP, unhide HX]; simp) (fun _ => rfl) ⟨rfl, rfl, rfl, rfl⟩ (Bl.drewN (unhide HB1) _))
    | false =>
      go_enter Tryd.func30, Tryd.ntmps30
      go_wp2_with fail
      refine (within_is qf _).mono ?_
      rintro e wa ⟨rfl, rfl⟩
      go_wp2_with fail
      refine (within_bl qs _).mono ?_
      rintro e wa ⟨rfl, rfl⟩
      go_wp2_with fail
      refine (within_bl qa _).mono ?_
      rintro e wa ⟨rfl, rfl⟩
      go_wp2_with fail
      go_quiet ((go_at_call 17; exact Calls.quiet_of_same (same_back (within_cl qn _))))
      go_wp2_with fail
      obtain ⟨W1, hW1⟩ : ∃ W1, ((((w.alloc (.cells #[.pointer (some ⟨b, 0, none⟩)] 42)).alloc (.cells #[.string f.name, .int .i64 f.params, .int .i64 f.slots, .slice g3 f.code.length p3, .slice g4 f.hands.length p4, .slice g5 f.vars.length p5] 81)).alloc (.cells #[.int .i64 38, .int .i64 x, .int .i64 y] 88)).drewN nq) = W1 := ⟨_, rfl⟩
      have HB1 : Hid (Below w.heap.size w W1) := by
        show Below _ _ _
        rw [← hW1]; exact below3 _ _ _ _
      have HI1 : Hid (ImgAt W1 b m (.slice gf m.funcs.length cf) (.slice gc m.consts.length cc) (.slice gk m.classes.length ck)) := (unhide H).keep (unhide HB1)
      have k0 : W1.cell? ⟨w.heap.size, 0, none⟩ = some (.pointer (some ⟨b, 0, none⟩)) := by
        rw [← hW1]; exact cell_al (cell_al (hcell (hnew _ _) 0) _) _
      have k2 : W1.cell? ⟨w.heap.size + 1 + 1, 1, none⟩ = some (.int .i64 x) := by
        rw [← hW1]; exact eff_box w _ _ _ 1
      have k3 : W1.cell? ⟨w.heap.size + 1 + 1, 2, none⟩ = some (.int .i64 y) := by
        rw [← hW1]; exact eff_box w _ _ _ 2
      have k4 := (unhide HI1).c0
      have k5 := (unhide HI1).c1
      have k6 := (unhide HI1).c2
      rw [hW1]
      clear hW1 c0 c1 c2
      go_quiet (fail)
      go_wp2_with fail
      exact bodyPost_ret (v := .tuple #[.bool false, .int .i64 y, .int .i64 1, .int .i64 (-1), .int .i64 0, .bool true]) (by simp [results, Tryd.results30, go_sem]) rfl (EffPost.mk (by rw [unhide HD, qn, qf]; simp) (fun h => by cases h) ⟨rfl, rfl, rfl, rfl⟩ (Bl.drewN (unhide HB1) _))
  | false =>
    obtain ⟨bf, qf⟩ : ∃ c, inB y 0 50 = c := ⟨_, rfl⟩
    go_enter Tryd.func30, Tryd.ntmps30
    go_wp2_with fail
    refine (within_is qf _).mono ?_
    rintro e wa ⟨rfl, rfl⟩
    go_wp2_with fail
    refine (within_bl qs _).mono ?_
    rintro e wa ⟨rfl, rfl⟩
    go_wp2_with fail
    refine (within_bl qa _).mono ?_
    rintro e wa ⟨rfl, rfl⟩
    go_wp2_with fail
    go_quiet ((go_at_call 17; exact Calls.quiet_of_same (same_back (within_cl qn _))))
    go_wp2_with fail
    obtain ⟨W1, hW1⟩ : ∃ W1, ((((w.alloc (.cells #[.pointer (some ⟨b, 0, none⟩)] 42)).alloc (.cells #[.string f.name, .int .i64 f.params, .int .i64 f.slots, .slice g3 f.code.length p3, .slice g4 f.hands.length p4, .slice g5 f.vars.length p5] 81)).alloc (.cells #[.int .i64 38, .int .i64 x, .int .i64 y] 88)).drewN nq) = W1 := ⟨_, rfl⟩
    have HB1 : Hid (Below w.heap.size w W1) := by
      show Below _ _ _
      rw [← hW1]; exact below3 _ _ _ _
    have HI1 : Hid (ImgAt W1 b m (.slice gf m.funcs.length cf) (.slice gc m.consts.length cc) (.slice gk m.classes.length ck)) := (unhide H).keep (unhide HB1)
    have k0 : W1.cell? ⟨w.heap.size, 0, none⟩ = some (.pointer (some ⟨b, 0, none⟩)) := by
      rw [← hW1]; exact cell_al (cell_al (hcell (hnew _ _) 0) _) _
    have k2 : W1.cell? ⟨w.heap.size + 1 + 1, 1, none⟩ = some (.int .i64 x) := by
      rw [← hW1]; exact eff_box w _ _ _ 1
    have k3 : W1.cell? ⟨w.heap.size + 1 + 1, 2, none⟩ = some (.int .i64 y) := by
      rw [← hW1]; exact eff_box w _ _ _ 2
    have k4 := (unhide HI1).c0
    have k5 := (unhide HI1).c1
    have k6 := (unhide HI1).c2
    rw [hW1]
    clear hW1 c0 c1 c2
    go_quiet (fail)
    go_wp2_with fail
    exact bodyPost_ret (v := .tuple #[.bool false, .int .i64 y, .int .i64 1, .int .i64 (-1), .int .i64 0, .bool true]) (by simp [results, Tryd.results30, go_sem]) rfl (EffPost.mk (by rw [unhide HD, qn]; rfl) (fun h => by cases h) ⟨rfl, rfl, rfl, rfl⟩ (Bl.drewN (unhide HB1) _))
end Go.Proofs.YtcbgcjkcfolcoaaDoor

namespace Go.Proofs.YtcbgcjkcfolcoaaDoor
open Go.RowKit

set_option maxRecDepth 100000 in
set_option maxHeartbeats 4000000 in
theorem ef_out {w : World} {b : Nat} {m : PM} {vf vc vk : Value} {f : PF} {g3 g4 g5 : Option Addr} {p3 p4 p5 : Nat} (h : EffAsk w b m vf vc vk f g3 g4 g5 p3 p4 p5) (op x y : Int) (hop : ¬ (1 ≤ op ∧ op ≤ 45)) :
    Calls Tryd.prog 30 #[.pointer (some ⟨b, 0, none⟩), .agg #[.string f.name, .int .i64 f.params, .int .i64 f.slots, .slice g3 f.code.length p3, .slice g4 f.hands.length p4, .slice g5 f.vars.length p5], .agg #[.int .i64 op, .int .i64 x, .int .i64 y]] w fun e w' => EffPost m f ⟨op, x, y⟩ w e w' := by
  obtain ⟨hI, h1, h2, h3, h4, h5, h6⟩ := h
  obtain ⟨_, ⟨gf, cf, rfl, _, _⟩, _⟩ := hI.img.funcs
  obtain ⟨gc, cc, rfl, _, _⟩ := hI.img.consts
  obtain ⟨_, ⟨gk, ck, rfl, _, _⟩, _⟩ := hI.img.classes
  have c0 := cell_al3 hI.c0
  have c1 := cell_al3 hI.c1
  have c2 := cell_al3 hI.c2
  have H := hide hI
  have hmf := mkf
  clear hI
  obtain ⟨bf, qf⟩ : ∃ c, inB y 0 50 = c := ⟨_, rfl⟩
  obtain ⟨bs, qs⟩ : ∃ c, belowB x f.slots = c := ⟨_, rfl⟩
  obtain ⟨ba, qa⟩ : ∃ c, belowB x f.code.length = c := ⟨_, rfl⟩
  obtain ⟨bn, qn⟩ : ∃ c, callB m x = c := ⟨_, rfl⟩
  have HD := hide (nameOk_out (m := m) (s := f.slots) (n := f.code.length) (i := ⟨op, x, y⟩) hop)
  have e1 : (op == 1) = false := beq_eq_false_iff_ne.2 (by omega)
  have e2 : (op == 2) = false := beq_eq_false_iff_ne.2 (by omega)
  have e3 : (op == 3) = false := beq_eq_false_iff_ne.2 (by omega)
  have e4 : (op == 4) = false := beq_eq_false_iff_ne.2 (by omega)
  have e5 : (op == 5) = false := beq_eq_false_iff_ne.2 (by omega)
  have e6 : (op == 6) = false := beq_eq_false_iff_ne.2 (by omega)
  have e7 : (op == 7) = false := beq_eq_false_iff_ne.2 (by omega)
  have e8 : (op == 8) = false := beq_eq_false_iff_ne.2 (by omega)
  have e9 : (op == 9) = false := beq_eq_false_iff_ne.2 (by omega)
  have e10 : (op == 10) = false := beq_eq_false_iff_ne.2 (by omega)
  have e11 : (op == 11) = false := beq_eq_false_iff_ne.2 (by omega)
  have e12 : (op == 12) = false := beq_eq_false_iff_ne.2 (by omega)
  have e13 : (op == 13) = false := beq_eq_false_iff_ne.2 (by omega)
  have e14 : (op == 14) = false := beq_eq_false_iff_ne.2 (by omega)
  have e15 : (op == 15) = false := beq_eq_false_iff_ne.2 (by omega)
  have e16 : (op == 16) = false := beq_eq_false_iff_ne.2 (by omega)
  have e17 : (op == 17) = false := beq_eq_false_iff_ne.2 (by omega)
  have e18 : (op == 18) = false := beq_eq_false_iff_ne.2 (by omega)
  have e19 : (op == 19) = false := beq_eq_false_iff_ne.2 (by omega)
  have e20 : (op == 20) = false := beq_eq_false_iff_ne.2 (by omega)
  have e21 : (op == 21) = false := beq_eq_false_iff_ne.2 (by omega)
  have e22 : (op == 22) = false := beq_eq_false_iff_ne.2 (by omega)
  have e23 : (op == 23) = false := beq_eq_false_iff_ne.2 (by omega)
  have e24 : (op == 24) = false := beq_eq_false_iff_ne.2 (by omega)
  have e25 : (op == 25) = false := beq_eq_false_iff_ne.2 (by omega)
  have e26 : (op == 26) = false := beq_eq_false_iff_ne.2 (by omega)
  have e27 : (op == 27) = false := beq_eq_false_iff_ne.2 (by omega)
  have e28 : (op == 28) = false := beq_eq_false_iff_ne.2 (by omega)
  have e29 : (op == 29) = false := beq_eq_false_iff_ne.2 (by omega)
  have e30 : (op == 30) = false := beq_eq_false_iff_ne.2 (by omega)
  have e31 : (op == 31) = false := beq_eq_false_iff_ne.2 (by omega)
  have e32 : (op == 32) = false := beq_eq_false_iff_ne.2 (by omega)
  have e33 : (op == 33) = false := beq_eq_false_iff_ne.2 (by omega)
  have e34 : (op == 34) = false := beq_eq_false_iff_ne.2 (by omega)
  have e35 : (op == 35) = false := beq_eq_false_iff_ne.2 (by omega)
  have e36 : (op == 36) = false := beq_eq_false_iff_ne.2 (by omega)
  have e37 : (op == 37) = false := beq_eq_false_iff_ne.2 (by omega)
  have e38 : (op == 38) = false := beq_eq_false_iff_ne.2 (by omega)
  have e39 : (op == 39) = false := beq_eq_false_iff_ne.2 (by omega)
  have e40 : (op == 40) = false := beq_eq_false_iff_ne.2 (by omega)
  have e41 : (op == 41) = false := beq_eq_false_iff_ne.2 (by omega)
  have e42 : (op == 42) = false := beq_eq_false_iff_ne.2 (by omega)
  have e43 : (op == 43) = false := beq_eq_false_iff_ne.2 (by omega)
  have e44 : (op == 44) = false := beq_eq_false_iff_ne.2 (by omega)
  have e45 : (op == 45) = false := beq_eq_false_iff_ne.2 (by omega)
  clear hop
  go_enter Tryd.func30, Tryd.ntmps30
  go_wp2_with fail
  refine (within_is qf _).mono ?_
  rintro e wa ⟨rfl, rfl⟩
  go_wp2_with fail
  refine (within_bl qs _).mono ?_
  rintro e wa ⟨rfl, rfl⟩
  go_wp2_with fail
  refine (within_bl qa _).mono ?_
  rintro e wa ⟨rfl, rfl⟩
  go_wp2_with fail
  go_quiet ((go_at_call 17; exact Calls.quiet_of_same (same_back (within_cl qn _))))
  go_wp2_with fail
  exact bodyPost_ret (v := .tuple #[.bool false, .int .i64 0, .int .i64 0, .int .i64 (-1), .int .i64 0, .bool true]) (by simp [results, Tryd.results30, go_sem]) rfl (EffPost.no (unhide HD) (below3 _ _ _ _))

theorem effect_any {w : World} {b : Nat} {m : PM} {vf vc vk : Value} {f : PF} {g3 g4 g5 : Option Addr} {p3 p4 p5 : Nat} (h : EffAsk w b m vf vc vk f g3 g4 g5 p3 p4 p5) (i : PI) (hb : i.b ≤ 9223372036854775807) :
    Calls Tryd.prog 30 #[.pointer (some ⟨b, 0, none⟩), .agg #[.string f.name, .int .i64 f.params, .int .i64 f.slots, .slice g3 f.code.length p3, .slice g4 f.hands.length p4, .slice g5 f.vars.length p5], .agg #[.int .i64 i.op, .int .i64 i.a, .int .i64 i.b]] w fun e w' => EffPost m f i w e w' := by
  obtain ⟨op, x, y⟩ := i
  rcases Decidable.em (1 ≤ op ∧ op ≤ 45) with k | k
  · rcases op_cases op k.1 k.2 with rfl|rfl|rfl|rfl|rfl|rfl|rfl|rfl|rfl|rfl|rfl|rfl|rfl|rfl|rfl|rfl|rfl|rfl|rfl|rfl|rfl|rfl|rfl|rfl|rfl|rfl|rfl|rfl|rfl|rfl|rfl|rfl|rfl|rfl|rfl|rfl|rfl|rfl|rfl|rfl|rfl|rfl|rfl|rfl|rfl
    · exact ef_1 h x y
    · exact ef_2 h x y
    · exact ef_3 h x y
    · exact ef_4 h x y
    · exact ef_5 h x y
    · exact ef_6 h x y
    · exact ef_7 h x y
    · exact ef_8 h x y
    · exact ef_9 h x y
    · exact ef_10 h x y
    · exact ef_11 h x y
    · exact ef_12 h x y
    · exact ef_13 h x y
    · exact ef_14 h x y
    · exact ef_15 h x y
    · exact ef_16 h x y
    · exact ef_17 h x y
    · exact ef_18 h x y
    · exact ef_19 h x y
    · exact ef_20 h x y
    · exact ef_21 h x y
    · exact ef_22 h x y
    · exact ef_23 h x y
    · exact ef_24 h x y
    · exact ef_25 h x y
    · exact ef_26 h x y
    · exact ef_27 h x y
    · exact ef_28 h x y
    · exact ef_29 h x y
    · exact ef_30 h x y
    · exact ef_31 h x y
    · exact ef_32 h x y
    · exact ef_33 h x y
    · exact ef_34 h x y
    · exact ef_35 h x y hb
    · exact ef_36 h x y
    · exact ef_37 h x y
    · exact ef_38 h x y
    · exact ef_39 h x y
    · exact ef_40 h x y
    · exact ef_41 h x y
    · exact ef_42 h x y
    · exact ef_43 h x y
    · exact ef_44 h x y
    · exact ef_45 h x y
  · exact ef_out h op x y k
end Go.Proofs.YtcbgcjkcfolcoaaDoor
