/-
  The document's answer: small questions.
-/
import Derived.Test.YtpfhnmgfcmkidaaDoorCCheck2
namespace Go.Proofs.YtpfhnmgfcmkidaaDoor
open Go.RowKit

set_option maxHeartbeats 1000000 in
theorem within_is {n l t : Int} {c : Bool} (h : inB n l t = c) (w : World) : Calls Tryd.prog 16 #[.int .i64 n, .int .i64 l, .int .i64 t] w fun e w' => e = .returned (.bool c) ∧ w = w' := by
  have HD : Hid (inB n l t = decide (l ≤ n ∧ n ≤ t)) := rfl
  have HC := hide h
  clear h
  by_cases h1 : l ≤ n
  · have d1 : decide (l ≤ n) = true := by simpa using h1
    go_enter Tryd.func16, Tryd.ntmps16
    go_wp2_with fail
    go_ret
    exact ⟨rb (by rw [← unhide HC, unhide HD]; simp [h1]), rfl⟩
  · have d1 : decide (l ≤ n) = false := by simpa using h1
    go_enter Tryd.func16, Tryd.ntmps16
    go_wp2_with fail
    go_ret
    exact ⟨rb (by rw [← unhide HC, unhide HD]; exact (decide_eq_false (by omega)).symm), rfl⟩

set_option maxHeartbeats 1000000 in
theorem bare_any (n : Int) (w : World) : Calls Tryd.prog 17 #[.int .i64 n] w fun e w' => e = .returned (.agg #[.int .i64 n, .int .i64 (-1)]) ∧ Below w.heap.size w w' := by
  go_enter Tryd.func17, Tryd.ntmps17
  go_wp2_with fail
  exact bodyPost_ret (v := .agg #[.int .i64 n, .int .i64 (-1)]) (by simp [results, Tryd.results17, go_sem]) rfl ⟨rfl, (Below.refl _ _).alloc (Nat.le_refl _) _⟩

set_option maxHeartbeats 1000000 in
theorem rtext_is {w : World} {b q : Nat} {m : PM} {vf vc vk : Value} (h : ImgAt w b m vf vc vk) (hq : w.cell? ⟨q, 0, none⟩ = some (.pointer (some ⟨b, 0, none⟩))) (hK : m.consts.length ≤ 1100) {n : Int} {c : Bool} (hc : isText m n = c) :
    Calls Tryd.prog 46 #[.int .i64 n, .pointer (some ⟨q, 0, none⟩)] w fun e w' => e = .returned (.bool c) ∧ w = w' := by
  have c1 := h.c1
  obtain ⟨g, cap, rfl, hN, hr⟩ := h.img.consts
  have HD : Hid (c = (belowB n m.consts.length && (constAt m n).text)) := hc.symm
  clear h hc
  cases hb : belowB n m.consts.length with
  | false =>
    have hb' := (inB_below n m.consts.length).trans hb
    go_enter Tryd.func46, Tryd.ntmps46
    go_wp2_with (go_at_call 16; refine (within_is hb' _).mono ?_; rintro e w' ⟨rfl, rfl⟩)
    go_ret
    exact ⟨rb (by rw [unhide HD, hb]; rfl), rfl⟩
  | true =>
    have hb' := (inB_below n m.consts.length).trans hb
    obtain ⟨h1, h2⟩ := belowB_true hb
    obtain ⟨k, rfl⟩ := Int.eq_ofNat_of_zero_le h1
    obtain ⟨gb, go, rfl, hcc⟩ := hr k (by omega)
    have hx : m.consts[k]? = some (m.consts[k]'(by omega)) := List.getElem?_eq_getElem _
    have hc0 : w.cell? ⟨gb, go + k * 3, none⟩ = some (.bool (m.consts[k]'(by omega)).text) := by
      have := hcc 0 (by omega)
      rw [constRow, hx] at this
      exact this
    have HC : Hid ((constAt m k).text = (m.consts[k]'(by omega)).text) := by
      show (constAt m k).text = _
      simp [constAt, List.getD, hx]
    clear hcc hr hx
    generalize (m.consts[k]'(by omega)).text = t at *
    go_enter Tryd.func46, Tryd.ntmps46
    go_wp2_with (go_at_call 16; refine (within_is hb' _).mono ?_; rintro e w' ⟨rfl, rfl⟩)
    go_ret
    exact ⟨rb (by rw [unhide HD, hb, unhide HC]; rfl), rfl⟩

theorem call_in (m : PM) (n : Int) : inB n 1 (m.funcs.length - 1) = callB m n := by
  unfold callB inB belowB
  by_cases h : n = 0
  · subst h; simp
  · have : (n != 0) = true := by rw [bne_iff_ne]; exact h
    rw [this, Bool.true_and]
    apply decide_eq_decide.2
    omega
end Go.Proofs.YtpfhnmgfcmkidaaDoor
