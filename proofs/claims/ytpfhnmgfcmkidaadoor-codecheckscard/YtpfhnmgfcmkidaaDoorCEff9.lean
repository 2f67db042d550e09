/-
  The document's table of instructions (nine).
-/
import Derived.Test.YtpfhnmgfcmkidaaDoorCEff
import Derived.Lib.MinMax
namespace Go.Proofs.YtpfhnmgfcmkidaaDoor
open Go.RowKit

set_option maxRecDepth 100000 in
set_option maxHeartbeats 4000000 in
theorem ef_38 {w : World} {b : Nat} {m : PM} {vf vc vk : Value} {f : PF} {g3 g4 g5 : Option Addr} {p3 p4 p5 : Nat} (h : EffAsk w b m vf vc vk f g3 g4 g5 p3 p4 p5) (x y : Int) :
    Calls Tryd.prog 30 #[.pointer (some ⟨b, 0, none⟩), .agg #[.string f.name, .int .i64 f.params, .int .i64 f.slots, .slice g3 f.code.length p3, .slice g4 f.hands.length p4, .slice g5 f.vars.length p5], .agg #[.int .i64 38, .int .i64 x, .int .i64 y]] w fun e w' => EffPost m f ⟨38, x, y⟩ w e w' := by
  obtain ⟨hI, h1, h2, h3, h4, h5, h6⟩ := h
  obtain ⟨_, ⟨gf, cf, rfl, _, _⟩, _⟩ := hI.img.funcs
  obtain ⟨gc, cc, rfl, _, _⟩ := hI.img.consts
  obtain ⟨_, ⟨gk, ck, rfl, _, _⟩, _⟩ := hI.img.classes
  have c0 := cell_al3 hI.c0
  have c1 := cell_al3 hI.c1
  have c2 := cell_al3 hI.c2
  have H := hide hI
  have hmf := mkf
  clear hI
  obtain ⟨bs, qs⟩ : ∃ c, belowB x f.slots = c := ⟨_, rfl⟩
  obtain ⟨ba, qa⟩ : ∃ c, belowB x f.code.length = c := ⟨_, rfl⟩
  have HD : Hid (nameOk m f.slots f.code.length ⟨38, x, y⟩ = (callB m x && (y == (funcAt m x).params) && inB y 0 50)) := rfl
  cases qn : callB m x with
  | true =>
    cases qf : inB y 0 50 with
    | true =>
      have hx : belowB x m.funcs.length = true := by
        have := qn
        unfold callB at this
        rw [Bool.and_eq_true] at this
        exact this.2
      obtain ⟨hx1, hx2⟩ := belowB_true hx
      obtain ⟨k, rfl⟩ := Int.eq_ofNat_of_zero_le hx1
      have hx3 : (k : Int) ≤ (m.funcs.length : Int) - 1 := by omega
      have mn : min (k : Int) ((m.funcs.length : Int) - 1) = k := Int.min_eq_left hx3
      have mx : max 0 (k : Int) = k := Int.max_eq_right hx1
      have mn2 : (if (m.funcs.length : Int) - 1 < (k : Int) then (m.funcs.length : Int) - 1 else (k : Int)) = k := by rw [if_neg (by omega)]
      have mx2 : (if 0 < (k : Int) then (k : Int) else 0) = k := by split <;> omega
      have ws : IntKind.i64.wrap ((m.funcs.length : Int) - 1) = (m.funcs.length : Int) - 1 := wrap_id (by omega) (by omega)
      obtain ⟨R, ⟨g', cap', hvv, _, hr⟩, hR⟩ := (unhide H).img.funcs
      cases hvv
      have hk : m.funcs[k]? = some (m.funcs[k]'(by omega)) := List.getElem?_eq_getElem _
      obtain ⟨gb, go, rfl, hF⟩ := FnAt.of_rows hr (i := k) (by omega) (hR k _ hk)
      have HP : Hid ((funcAt m k).params = (m.funcs[k]'(by omega)).params) := by
        show (funcAt m k).params = _
        simp [funcAt, List.getD, hk]
      have HF1 := hide hF.c1
      have HX : Hid ((y == (m.funcs[k]'(by omega)).params) = ((m.funcs[k]'(by omega)).params == y)) := by
        show _ = _
        rw [Bool.eq_iff_iff, beq_iff_eq, beq_iff_eq]; exact ⟨fun h => h.symm, fun h => h.symm⟩
      clear hF hr hR hk hx
      generalize (m.funcs[k]'(by omega)).params = p at *
      go_enter Tryd.func30, Tryd.ntmps30
      go_wp2_with fail
      refine (within_is qf _).mono ?_
      rintro e wa ⟨rfl, rfl⟩
      go_wp2_with fail
      refine (within_bl qs _).mono ?_
      rintro e wa ⟨rfl, rfl⟩
      go_wp2_with fail
      refine (within_bl qa _).mono ?_
      rintro e wa ⟨rfl, rfl⟩
      go_wp2_with fail
      go_quiet ((go_at_call 16; exact Calls.quiet_of_same (same_back (within_cl qn _))))
      go_wp2_with fail
      obtain ⟨W1, hW1⟩ : ∃ W1, ((((w.alloc (.cells #[.pointer (some ⟨b, 0, none⟩)] 37)).alloc (.cells #[.string f.name, .int .i64 f.params, .int .i64 f.slots, .slice g3 f.code.length p3, .slice g4 f.hands.length p4, .slice g5 f.vars.length p5] 73)).alloc (.cells #[.int .i64 38, .int .i64 k, .int .i64 y] 80)).drewN nq) = W1 := ⟨_, rfl⟩
      have HB1 : Hid (Below w.heap.size w W1) := by
        show Below _ _ _
        rw [← hW1]; exact below3 _ _ _ _
      have HI1 : Hid (ImgAt W1 b m (.slice (some ⟨gb, go, none⟩) m.funcs.length cf) (.slice gc m.consts.length cc) (.slice gk m.classes.length ck)) := (unhide H).keep (unhide HB1)
      have k0 : W1.cell? ⟨w.heap.size, 0, none⟩ = some (.pointer (some ⟨b, 0, none⟩)) := by
        rw [← hW1]; exact cell_al (cell_al (hcell (hnew _ _) 0) _) _
      have k2 : W1.cell? ⟨w.heap.size + 1 + 1, 1, none⟩ = some (.int .i64 k) := by
        rw [← hW1]; exact eff_box w _ _ _ 1
      have k3 : W1.cell? ⟨w.heap.size + 1 + 1, 2, none⟩ = some (.int .i64 y) := by
        rw [← hW1]; exact eff_box w _ _ _ 2
      have k4 := (unhide HI1).c0
      have k5 := (unhide HI1).c1
      have k6 := (unhide HI1).c2
      have k7 := cellk (unhide HB1) (unhide HF1) (cell_lt (unhide HF1))
      rw [hW1]
      clear hW1 c0 c1 c2
      go_quiet (fail)
      go_wp2_with fail
      exact bodyPost_ret (v := .tuple #[.bool (p == y), .int .i64 y, .int .i64 1, .int .i64 (-1), .int .i64 0, .bool true]) (by simp [results, Tryd.results30, go_sem]) rfl (EffPost.mk (by rw [unhide HD, qn, qf, unhide HP, unhide HX]; simp) (fun _ => rfl) ⟨rfl, rfl, rfl, rfl⟩ (Bl.drewN (unhide HB1) _))
    | false =>
      go_enter Tryd.func30, Tryd.ntmps30
      go_wp2_with fail
      refine (within_is qf _).mono ?_
      rintro e wa ⟨rfl, rfl⟩
      go_wp2_with fail
      refine (within_bl qs _).mono ?_
      rintro e wa ⟨rfl, rfl⟩
      go_wp2_with fail
      refine (within_bl qa _).mono ?_
      rintro e wa ⟨rfl, rfl⟩
      go_wp2_with fail
      go_quiet ((go_at_call 16; exact Calls.quiet_of_same (same_back (within_cl qn _))))
      go_wp2_with fail
      obtain ⟨W1, hW1⟩ : ∃ W1, ((((w.alloc (.cells #[.pointer (some ⟨b, 0, none⟩)] 37)).alloc (.cells #[.string f.name, .int .i64 f.params, .int .i64 f.slots, .slice g3 f.code.length p3, .slice g4 f.hands.length p4, .slice g5 f.vars.length p5] 73)).alloc (.cells #[.int .i64 38, .int .i64 x, .int .i64 y] 80)).drewN nq) = W1 := ⟨_, rfl⟩
      have HB1 : Hid (Below w.heap.size w W1) := by
        show Below _ _ _
        rw [← hW1]; exact below3 _ _ _ _
      have HI1 : Hid (ImgAt W1 b m (.slice gf m.funcs.length cf) (.slice gc m.consts.length cc) (.slice gk m.classes.length ck)) := (unhide H).keep (unhide HB1)
      have k0 : W1.cell? ⟨w.heap.size, 0, none⟩ = some (.pointer (some ⟨b, 0, none⟩)) := by
        rw [← hW1]; exact cell_al (cell_al (hcell (hnew _ _) 0) _) _
      have k2 : W1.cell? ⟨w.heap.size + 1 + 1, 1, none⟩ = some (.int .i64 x) := by
        rw [← hW1]; exact eff_box w _ _ _ 1
      have k3 : W1.cell? ⟨w.heap.size + 1 + 1, 2, none⟩ = some (.int .i64 y) := by
        rw [← hW1]; exact eff_box w _ _ _ 2
      have k4 := (unhide HI1).c0
      have k5 := (unhide HI1).c1
      have k6 := (unhide HI1).c2
      rw [hW1]
      clear hW1 c0 c1 c2
      go_quiet (fail)
      go_wp2_with fail
      exact bodyPost_ret (v := .tuple #[.bool false, .int .i64 y, .int .i64 1, .int .i64 (-1), .int .i64 0, .bool true]) (by simp [results, Tryd.results30, go_sem]) rfl (EffPost.mk (by rw [unhide HD, qn, qf]; simp) (fun h => by cases h) ⟨rfl, rfl, rfl, rfl⟩ (Bl.drewN (unhide HB1) _))
  | false =>
    obtain ⟨bf, qf⟩ : ∃ c, inB y 0 50 = c := ⟨_, rfl⟩
    go_enter Tryd.func30, Tryd.ntmps30
    go_wp2_with fail
    refine (within_is qf _).mono ?_
    rintro e wa ⟨rfl, rfl⟩
    go_wp2_with fail
    refine (within_bl qs _).mono ?_
    rintro e wa ⟨rfl, rfl⟩
    go_wp2_with fail
    refine (within_bl qa _).mono ?_
    rintro e wa ⟨rfl, rfl⟩
    go_wp2_with fail
    go_quiet ((go_at_call 16; exact Calls.quiet_of_same (same_back (within_cl qn _))))
    go_wp2_with fail
    obtain ⟨W1, hW1⟩ : ∃ W1, ((((w.alloc (.cells #[.pointer (some ⟨b, 0, none⟩)] 37)).alloc (.cells #[.string f.name, .int .i64 f.params, .int .i64 f.slots, .slice g3 f.code.length p3, .slice g4 f.hands.length p4, .slice g5 f.vars.length p5] 73)).alloc (.cells #[.int .i64 38, .int .i64 x, .int .i64 y] 80)).drewN nq) = W1 := ⟨_, rfl⟩
    have HB1 : Hid (Below w.heap.size w W1) := by
      show Below _ _ _
      rw [← hW1]; exact below3 _ _ _ _
    have HI1 : Hid (ImgAt W1 b m (.slice gf m.funcs.length cf) (.slice gc m.consts.length cc) (.slice gk m.classes.length ck)) := (unhide H).keep (unhide HB1)
    have k0 : W1.cell? ⟨w.heap.size, 0, none⟩ = some (.pointer (some ⟨b, 0, none⟩)) := by
      rw [← hW1]; exact cell_al (cell_al (hcell (hnew _ _) 0) _) _
    have k2 : W1.cell? ⟨w.heap.size + 1 + 1, 1, none⟩ = some (.int .i64 x) := by
      rw [← hW1]; exact eff_box w _ _ _ 1
    have k3 : W1.cell? ⟨w.heap.size + 1 + 1, 2, none⟩ = some (.int .i64 y) := by
      rw [← hW1]; exact eff_box w _ _ _ 2
    have k4 := (unhide HI1).c0
    have k5 := (unhide HI1).c1
    have k6 := (unhide HI1).c2
    rw [hW1]
    clear hW1 c0 c1 c2
    go_quiet (fail)
    go_wp2_with fail
    exact bodyPost_ret (v := .tuple #[.bool false, .int .i64 y, .int .i64 1, .int .i64 (-1), .int .i64 0, .bool true]) (by simp [results, Tryd.results30, go_sem]) rfl (EffPost.mk (by rw [unhide HD, qn]; rfl) (fun h => by cases h) ⟨rfl, rfl, rfl, rfl⟩ (Bl.drewN (unhide HB1) _))
end Go.Proofs.YtpfhnmgfcmkidaaDoor
