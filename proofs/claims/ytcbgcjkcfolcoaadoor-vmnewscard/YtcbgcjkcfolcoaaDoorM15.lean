/-
  The document's table of instructions (eight).
-/
import Derived.Test.YtcbgcjkcfolcoaaDoorM14
namespace Go.Proofs.YtcbgcjkcfolcoaaDoor
open Go.RowKit

set_option maxRecDepth 100000 in
set_option maxHeartbeats 4000000 in
theorem ef_35 {w : World} {b : Nat} {m : PM} {vf vc vk : Value} {f : PF} {g3 g4 g5 : Option Addr} {p3 p4 p5 : Nat} (h : EffAsk w b m vf vc vk f g3 g4 g5 p3 p4 p5) (x y : Int) (hy9 : y ≤ 9223372036854775807) :
    Calls Tryd.prog 30 #[.pointer (some ⟨b, 0, none⟩), .agg #[.string f.name, .int .i64 f.params, .int .i64 f.slots, .slice g3 f.code.length p3, .slice g4 f.hands.length p4, .slice g5 f.vars.length p5], .agg #[.int .i64 35, .int .i64 x, .int .i64 y]] w fun e w' => EffPost m f ⟨35, x, y⟩ w e w' := by
  obtain ⟨hI, h1, h2, h3, h4, h5, h6⟩ := h
  obtain ⟨_, ⟨gf, cf, rfl, _, _⟩, _⟩ := hI.img.funcs
  obtain ⟨gc, cc, rfl, _, _⟩ := hI.img.consts
  obtain ⟨_, ⟨gk, ck, rfl, _, _⟩, _⟩ := hI.img.classes
  have c0 := cell_al3 hI.c0
  have c1 := cell_al3 hI.c1
  have c2 := cell_al3 hI.c2
  have H := hide hI
  have hmf := mkf
  clear hI
  obtain ⟨bf, qf⟩ : ∃ c, inB y 0 50 = c := ⟨_, rfl⟩
  obtain ⟨bs, qs⟩ : ∃ c, belowB x f.slots = c := ⟨_, rfl⟩
  obtain ⟨ba, qa⟩ : ∃ c, belowB x f.code.length = c := ⟨_, rfl⟩
  obtain ⟨bn, qn⟩ : ∃ c, callB m x = c := ⟨_, rfl⟩
  have HD : Hid (nameOk m f.slots f.code.length ⟨35, x, y⟩ = (isText m x && decide (0 ≤ y) && belowB (y.tdiv 64) m.classes.length && inB (y.tmod 64) 0 50)) := rfl
  have hmb : -64 < y.tmod 64 ∧ y.tmod 64 < 64 := by
    have a1 := Int.tmod_lt_of_pos y (show (0 : Int) < 64 by decide)
    have a2 := Int.lt_tmod_of_pos y (show (0 : Int) < 64 by decide)
    omega
  obtain ⟨hm0, hm1⟩ := hmb
  have w2 : IntKind.i64.wrap (y.tmod 64) = y.tmod 64 := wrap_id (by omega) (by omega)
  have w3 : IntKind.i64.wrap (y.tmod 64 + 1) = y.tmod 64 + 1 := wrap_id (by omega) (by omega)
  cases ht : isText m x with
  | true =>
    by_cases hy : 0 ≤ y
    · have dy : decide (0 ≤ y) = true := by simpa using hy
      have w1 : IntKind.i64.wrap (y.tdiv 64) = y.tdiv 64 := by rw [td_eq hy]; exact wrap_id (by omega) (by omega)
      have hq0 : 0 ≤ y.tdiv 64 := by rw [td_eq hy]; omega
      have hmm : 0 ≤ y.tmod 64 := by rw [tm_eq hy]; omega
      by_cases hk : y.tdiv 64 < m.classes.length
      · have dk : decide (y.tdiv 64 < (m.classes.length : Int)) = true := by simpa using hk
        have HK : Hid (belowB (y.tdiv 64) m.classes.length = true) := by
          show _ = true
          simp [belowB]; omega
        have HM : Hid (inB (y.tmod 64) 0 50 = decide (y % 64 ≤ 50)) := by
          show _ = _
          rw [tm_eq hy]
          unfold inB; apply decide_eq_decide.2; omega
        go_enter Tryd.func30, Tryd.ntmps30
        go_wp2_with fail
        refine (within_is qf _).mono ?_
        rintro e wa ⟨rfl, rfl⟩
        go_wp2_with fail
        refine (within_bl qs _).mono ?_
        rintro e wa ⟨rfl, rfl⟩
        go_wp2_with fail
        refine (within_bl qa _).mono ?_
        rintro e wa ⟨rfl, rfl⟩
        go_wp2_with fail
        go_quiet ((go_at_call 17; exact Calls.quiet_of_same (same_back (within_cl qn _))))
        go_wp2_with fail
        obtain ⟨W1, hW1⟩ : ∃ W1, ((((w.alloc (.cells #[.pointer (some ⟨b, 0, none⟩)] 42)).alloc (.cells #[.string f.name, .int .i64 f.params, .int .i64 f.slots, .slice g3 f.code.length p3, .slice g4 f.hands.length p4, .slice g5 f.vars.length p5] 81)).alloc (.cells #[.int .i64 35, .int .i64 x, .int .i64 y] 88)).drewN nq) = W1 := ⟨_, rfl⟩
        have HB1 : Hid (Below w.heap.size w W1) := by
          show Below _ _ _
          rw [← hW1]; exact below3 _ _ _ _
        have HI1 : Hid (ImgAt W1 b m (.slice gf m.funcs.length cf) (.slice gc m.consts.length cc) (.slice gk m.classes.length ck)) := (unhide H).keep (unhide HB1)
        have k0 : W1.cell? ⟨w.heap.size, 0, none⟩ = some (.pointer (some ⟨b, 0, none⟩)) := by
          rw [← hW1]; exact cell_al (cell_al (hcell (hnew _ _) 0) _) _
        have k2 : W1.cell? ⟨w.heap.size + 1 + 1, 1, none⟩ = some (.int .i64 x) := by
          rw [← hW1]; exact eff_box w _ _ _ 1
        have k3 : W1.cell? ⟨w.heap.size + 1 + 1, 2, none⟩ = some (.int .i64 y) := by
          rw [← hW1]; exact eff_box w _ _ _ 2
        have k4 := (unhide HI1).c0
        have k5 := (unhide HI1).c1
        have k6 := (unhide HI1).c2
        rw [hW1]
        clear hW1 c0 c1 c2
        go_quiet ((go_at_call 38; exact Calls.quiet_of_same (same_back (rtext_is ((unhide HI1).drewN _) k0 (by omega) ht))))
        go_wp2_with fail
        exact bodyPost_ret (v := .tuple #[.bool (decide (y % 64 ≤ 50)), .int .i64 (y % 64 + 1), .int .i64 1, .int .i64 (-1), .int .i64 0, .bool true]) (by simp [results, Tryd.results30, go_sem]) rfl (EffPost.mk (by rw [unhide HD, ht, dy, unhide HK, unhide HM]; rfl) (fun _ => (by show y % 64 + 1 = y.tmod 64 + 1; rw [tm_eq hy])) ⟨rfl, rfl, rfl, rfl⟩ (Bl.drewN (unhide HB1) _))
      · have dk : decide (y.tdiv 64 < (m.classes.length : Int)) = false := by simpa using hk
        have HK : Hid (belowB (y.tdiv 64) m.classes.length = false) := by
          show _ = false
          simp [belowB]; omega
        go_enter Tryd.func30, Tryd.ntmps30
        go_wp2_with fail
        refine (within_is qf _).mono ?_
        rintro e wa ⟨rfl, rfl⟩
        go_wp2_with fail
        refine (within_bl qs _).mono ?_
        rintro e wa ⟨rfl, rfl⟩
        go_wp2_with fail
        refine (within_bl qa _).mono ?_
        rintro e wa ⟨rfl, rfl⟩
        go_wp2_with fail
        go_quiet ((go_at_call 17; exact Calls.quiet_of_same (same_back (within_cl qn _))))
        go_wp2_with fail
        obtain ⟨W1, hW1⟩ : ∃ W1, ((((w.alloc (.cells #[.pointer (some ⟨b, 0, none⟩)] 42)).alloc (.cells #[.string f.name, .int .i64 f.params, .int .i64 f.slots, .slice g3 f.code.length p3, .slice g4 f.hands.length p4, .slice g5 f.vars.length p5] 81)).alloc (.cells #[.int .i64 35, .int .i64 x, .int .i64 y] 88)).drewN nq) = W1 := ⟨_, rfl⟩
        have HB1 : Hid (Below w.heap.size w W1) := by
          show Below _ _ _
          rw [← hW1]; exact below3 _ _ _ _
        have HI1 : Hid (ImgAt W1 b m (.slice gf m.funcs.length cf) (.slice gc m.consts.length cc) (.slice gk m.classes.length ck)) := (unhide H).keep (unhide HB1)
        have k0 : W1.cell? ⟨w.heap.size, 0, none⟩ = some (.pointer (some ⟨b, 0, none⟩)) := by
          rw [← hW1]; exact cell_al (cell_al (hcell (hnew _ _) 0) _) _
        have k2 : W1.cell? ⟨w.heap.size + 1 + 1, 1, none⟩ = some (.int .i64 x) := by
          rw [← hW1]; exact eff_box w _ _ _ 1
        have k3 : W1.cell? ⟨w.heap.size + 1 + 1, 2, none⟩ = some (.int .i64 y) := by
          rw [← hW1]; exact eff_box w _ _ _ 2
        have k4 := (unhide HI1).c0
        have k5 := (unhide HI1).c1
        have k6 := (unhide HI1).c2
        rw [hW1]
        clear hW1 c0 c1 c2
        go_quiet ((go_at_call 38; exact Calls.quiet_of_same (same_back (rtext_is ((unhide HI1).drewN _) k0 (by omega) ht))))
        go_wp2_with fail
        exact bodyPost_ret (v := .tuple #[.bool false, .int .i64 (y % 64 + 1), .int .i64 1, .int .i64 (-1), .int .i64 0, .bool true]) (by simp [results, Tryd.results30, go_sem]) rfl (EffPost.mk (by rw [unhide HD, ht, dy, unhide HK]; rfl) (fun h => by cases h) ⟨rfl, rfl, rfl, rfl⟩ (Bl.drewN (unhide HB1) _))
    · have dy : decide (0 ≤ y) = false := by simpa using hy
      go_enter Tryd.func30, Tryd.ntmps30
      go_wp2_with fail
      refine (within_is qf _).mono ?_
      rintro e wa ⟨rfl, rfl⟩
      go_wp2_with fail
      refine (within_bl qs _).mono ?_
      rintro e wa ⟨rfl, rfl⟩
      go_wp2_with fail
      refine (within_bl qa _).mono ?_
      rintro e wa ⟨rfl, rfl⟩
      go_wp2_with fail
      go_quiet ((go_at_call 17; exact Calls.quiet_of_same (same_back (within_cl qn _))))
      go_wp2_with fail
      obtain ⟨W1, hW1⟩ : ∃ W1, ((((w.alloc (.cells #[.pointer (some ⟨b, 0, none⟩)] 42)).alloc (.cells #[.string f.name, .int .i64 f.params, .int .i64 f.slots, .slice g3 f.code.length p3, .slice g4 f.hands.length p4, .slice g5 f.vars.length p5] 81)).alloc (.cells #[.int .i64 35, .int .i64 x, .int .i64 y] 88)).drewN nq) = W1 := ⟨_, rfl⟩
      have HB1 : Hid (Below w.heap.size w W1) := by
        show Below _ _ _
        rw [← hW1]; exact below3 _ _ _ _
      have HI1 : Hid (ImgAt W1 b m (.slice gf m.funcs.length cf) (.slice gc m.consts.length cc) (.slice gk m.classes.length ck)) := (unhide H).keep (unhide HB1)
      have k0 : W1.cell? ⟨w.heap.size, 0, none⟩ = some (.pointer (some ⟨b, 0, none⟩)) := by
        rw [← hW1]; exact cell_al (cell_al (hcell (hnew _ _) 0) _) _
      have k2 : W1.cell? ⟨w.heap.size + 1 + 1, 1, none⟩ = some (.int .i64 x) := by
        rw [← hW1]; exact eff_box w _ _ _ 1
      have k3 : W1.cell? ⟨w.heap.size + 1 + 1, 2, none⟩ = some (.int .i64 y) := by
        rw [← hW1]; exact eff_box w _ _ _ 2
      have k4 := (unhide HI1).c0
      have k5 := (unhide HI1).c1
      have k6 := (unhide HI1).c2
      rw [hW1]
      clear hW1 c0 c1 c2
      go_quiet ((go_at_call 38; exact Calls.quiet_of_same (same_back (rtext_is ((unhide HI1).drewN _) k0 (by omega) ht))))
      go_wp2_with fail
      exact bodyPost_ret (v := .tuple #[.bool false, .int .i64 (y.tmod 64 + 1), .int .i64 1, .int .i64 (-1), .int .i64 0, .bool true]) (by simp [results, Tryd.results30, go_sem]) rfl (EffPost.mk (by rw [unhide HD, ht, dy]; rfl) (fun h => by cases h) ⟨rfl, rfl, rfl, rfl⟩ (Bl.drewN (unhide HB1) _))
  | false =>
    go_enter Tryd.func30, Tryd.ntmps30
    go_wp2_with fail
    refine (within_is qf _).mono ?_
    rintro e wa ⟨rfl, rfl⟩
    go_wp2_with fail
    refine (within_bl qs _).mono ?_
    rintro e wa ⟨rfl, rfl⟩
    go_wp2_with fail
    refine (within_bl qa _).mono ?_
    rintro e wa ⟨rfl, rfl⟩
    go_wp2_with fail
    go_quiet ((go_at_call 17; exact Calls.quiet_of_same (same_back (within_cl qn _))))
    go_wp2_with fail
    obtain ⟨W1, hW1⟩ : ∃ W1, ((((w.alloc (.cells #[.pointer (some ⟨b, 0, none⟩)] 42)).alloc (.cells #[.string f.name, .int .i64 f.params, .int .i64 f.slots, .slice g3 f.code.length p3, .slice g4 f.hands.length p4, .slice g5 f.vars.length p5] 81)).alloc (.cells #[.int .i64 35, .int .i64 x, .int .i64 y] 88)).drewN nq) = W1 := ⟨_, rfl⟩
    have HB1 : Hid (Below w.heap.size w W1) := by
      show Below _ _ _
      rw [← hW1]; exact below3 _ _ _ _
    have HI1 : Hid (ImgAt W1 b m (.slice gf m.funcs.length cf) (.slice gc m.consts.length cc) (.slice gk m.classes.length ck)) := (unhide H).keep (unhide HB1)
    have k0 : W1.cell? ⟨w.heap.size, 0, none⟩ = some (.pointer (some ⟨b, 0, none⟩)) := by
      rw [← hW1]; exact cell_al (cell_al (hcell (hnew _ _) 0) _) _
    have k2 : W1.cell? ⟨w.heap.size + 1 + 1, 1, none⟩ = some (.int .i64 x) := by
      rw [← hW1]; exact eff_box w _ _ _ 1
    have k3 : W1.cell? ⟨w.heap.size + 1 + 1, 2, none⟩ = some (.int .i64 y) := by
      rw [← hW1]; exact eff_box w _ _ _ 2
    have k4 := (unhide HI1).c0
    have k5 := (unhide HI1).c1
    have k6 := (unhide HI1).c2
    rw [hW1]
    clear hW1 c0 c1 c2
    go_quiet ((go_at_call 38; exact Calls.quiet_of_same (same_back (rtext_is ((unhide HI1).drewN _) k0 (by omega) ht))))
    go_wp2_with fail
    exact bodyPost_ret (v := .tuple #[.bool false, .int .i64 (y.tmod 64 + 1), .int .i64 1, .int .i64 (-1), .int .i64 0, .bool true]) (by simp [results, Tryd.results30, go_sem]) rfl (EffPost.mk (by rw [unhide HD, ht]; rfl) (fun h => by cases h) ⟨rfl, rfl, rfl, rfl⟩ (Bl.drewN (unhide HB1) _))
end Go.Proofs.YtcbgcjkcfolcoaaDoor
