/-
  Small questions of package code.
-/
import Derived.Test.YtpfhnmgfcmkidaaDoorCMem
namespace Go.Proofs.YtpfhnmgfcmkidaaDoor
open Go.RowKit

set_option maxHeartbeats 1000000 in
theorem below_any (n many : Int) (w : World) : Calls Tryd.prog 41 #[.int .i64 n, .int .i64 many] w fun e w' => e = .returned (.bool (belowB n many)) ∧ w = w' := by
  have hd : belowB n many = decide (0 ≤ n ∧ n < many) := rfl
  have HD := hide hd
  clear hd
  by_cases h1 : 0 ≤ n
  · go_enter Tryd.func41, Tryd.ntmps41
    go_wp2_with fail
    go_ret
    exact ⟨rb (by rw [unhide HD]; simp [h1]), rfl⟩
  · go_enter Tryd.func41, Tryd.ntmps41
    go_wp2_with fail
    go_ret
    exact ⟨rb (by rw [unhide HD]; exact (decide_eq_false (by omega)).symm), rfl⟩

set_option maxHeartbeats 1000000 in
theorem few_any (n : Int) (w : World) : Calls Tryd.prog 62 #[.int .i64 n] w fun e w' => e = .returned (.bool (fewB n)) ∧ w = w' := by
  have hd : fewB n = decide (0 ≤ n ∧ n ≤ 50) := rfl
  have HD := hide hd
  clear hd
  by_cases h1 : 0 ≤ n
  · go_enter Tryd.func62, Tryd.ntmps62
    go_wp2_with fail
    go_ret
    exact ⟨rb (by rw [unhide HD]; simp [h1]), rfl⟩
  · go_enter Tryd.func62, Tryd.ntmps62
    go_wp2_with fail
    go_ret
    exact ⟨rb (by rw [unhide HD]; exact (decide_eq_false (by omega)).symm), rfl⟩

set_option maxHeartbeats 1000000 in
theorem callable_any {w : World} {b : Nat} {m : PM} {vf vc vk : Value} (h : ImgAt w b m vf vc vk) (n : Int) :
    Calls Tryd.prog 25 #[.pointer (some ⟨b, 0, none⟩), .int .i64 n] w fun e w' => e = .returned (.bool (callB m n)) ∧ w = w' := by
  have c0 := h.c0
  obtain ⟨R, ⟨g, cap, rfl, _, _⟩, _⟩ := h.img.funcs
  have HD : Hid (callB m n = ((n != 0) && belowB n m.funcs.length)) := rfl
  clear h
  generalize m.funcs.length = N at *
  by_cases h1 : n = 0
  · have b1 : (n != 0) = false := by simp [h1]
    clear h1
    go_enter Tryd.func25, Tryd.ntmps25
    go_wp2_with fail
    go_ret
    exact ⟨rb (by rw [unhide HD, b1]; rfl), rfl⟩
  · have b1 : (n != 0) = true := by simp [h1]
    clear h1
    go_enter Tryd.func25, Tryd.ntmps25
    go_wp2_with (go_at_call 41; refine (below_any _ _ _).mono ?_; rintro e w' ⟨rfl, rfl⟩)
    go_ret
    exact ⟨rb (by rw [unhide HD, b1]; rfl), rfl⟩

set_option maxHeartbeats 1000000 in
theorem text_any {w : World} {b : Nat} {m : PM} {vf vc vk : Value} (h : ImgAt w b m vf vc vk) (n : Int) :
    Calls Tryd.prog 63 #[.pointer (some ⟨b, 0, none⟩), .int .i64 n] w fun e w' => e = .returned (.bool (isText m n)) ∧ w = w' := by
  have c1 := h.c1
  obtain ⟨g, cap, rfl, hN, hr⟩ := h.img.consts
  have HD : Hid (isText m n = (belowB n m.consts.length && (constAt m n).text)) := rfl
  clear h
  cases hb : belowB n m.consts.length with
  | false =>
    go_enter Tryd.func63, Tryd.ntmps63
    go_wp2_with (go_at_call 41; refine (below_any _ _ _).mono ?_; rintro e w' ⟨rfl, rfl⟩)
    go_ret
    exact ⟨rb (by rw [unhide HD, hb]; rfl), rfl⟩
  | true =>
    obtain ⟨h1, h2⟩ := belowB_true hb
    obtain ⟨k, rfl⟩ := Int.eq_ofNat_of_zero_le h1
    obtain ⟨gb, go, rfl, hc⟩ := hr k (by omega)
    have hx : m.consts[k]? = some (m.consts[k]'(by omega)) := List.getElem?_eq_getElem _
    have hc0 : w.cell? ⟨gb, go + k * 3, none⟩ = some (.bool (m.consts[k]'(by omega)).text) := by
      have := hc 0 (by omega)
      rw [constRow, hx] at this
      exact this
    have HC : Hid ((constAt m k).text = (m.consts[k]'(by omega)).text) := by
      show (constAt m k).text = _
      simp [constAt, List.getD, hx]
    clear hc hr hx
    generalize (m.consts[k]'(by omega)).text = t at *
    go_enter Tryd.func63, Tryd.ntmps63
    go_wp2_with (go_at_call 41; refine (below_any _ _ _).mono ?_; rintro e w' ⟨rfl, rfl⟩)
    go_ret
    exact ⟨rb (by rw [unhide HD, hb, unhide HC]; rfl), rfl⟩

/-- A function's cells behind a pointer. -/
structure FnAt (w : World) (b o : Nat) (C : Nat → Value) (f : PF) : Prop where
  c0 : w.cell? ⟨b, o, none⟩ = some (.string f.name)
  c1 : w.cell? ⟨b, o + 1, none⟩ = some (.int .i64 f.params)
  c2 : w.cell? ⟨b, o + 2, none⟩ = some (.int .i64 f.slots)
  c3 : w.cell? ⟨b, o + 3, none⟩ = some (C 3)
  c4 : w.cell? ⟨b, o + 4, none⟩ = some (C 4)
  c5 : w.cell? ⟨b, o + 5, none⟩ = some (C 5)
  fn : FnIs w C f
theorem FnAt.keep {w w' : World} {b o : Nat} {C : Nat → Value} {f : PF} (h : FnAt w b o C f) (hb : Below w.heap.size w w') : FnAt w' b o C f :=
  ⟨cellk hb h.c0 (cell_lt h.c0), cellk hb h.c1 (cell_lt h.c1), cellk hb h.c2 (cell_lt h.c2), cellk hb h.c3 (cell_lt h.c3), cellk hb h.c4 (cell_lt h.c4), cellk hb h.c5 (cell_lt h.c5), h.fn.keep hb⟩
theorem FnAt.of_rows {w : World} {g : Option Addr} {n : Nat} {R : Nat → Nat → Value} (h : RowsAt w g n 6 R) {i : Nat} (hi : i < n) {f : PF} (hf : FnIs w (R i) f) : ∃ b o, g = some ⟨b, o, none⟩ ∧ FnAt w b (o + i * 6) (R i) f := by
  obtain ⟨b, o, h1, h2⟩ := h i hi
  refine ⟨b, o, h1, ⟨?_, ?_, ?_, h2 3 (by omega), h2 4 (by omega), h2 5 (by omega), hf⟩⟩
  · exact (h2 0 (by omega)).trans (by rw [hf.1])
  · exact (h2 1 (by omega)).trans (by rw [hf.2.1])
  · exact (h2 2 (by omega)).trans (by rw [hf.2.2.1])

set_option maxHeartbeats 1000000 in
theorem span_any {w : World} {b o : Nat} {C : Nat → Value} {f : PF} (h : FnAt w b o C f) (fr hi : Int) :
    Calls Tryd.prog 43 #[.pointer (some ⟨b, o, none⟩), .int .i64 fr, .int .i64 hi] w fun e w' => e = .returned (.bool (spanOk f.code.length fr hi)) ∧ w = w' := by
  have c3 := h.c3
  obtain ⟨g, cap, hC, _, _⟩ := h.fn.2.2.2.1
  rw [hC] at c3
  have HD : Hid (spanOk f.code.length fr hi = decide (0 ≤ fr ∧ fr ≤ hi ∧ hi ≤ f.code.length)) := rfl
  clear h hC
  generalize f.code.length = N at *
  by_cases h1 : 0 ≤ fr
  · by_cases h2 : fr ≤ hi
    · go_enter Tryd.func43, Tryd.ntmps43
      go_wp2_with fail
      go_ret
      exact ⟨rb (by rw [unhide HD]; simp [h1, h2]), rfl⟩
    · go_enter Tryd.func43, Tryd.ntmps43
      go_wp2_with fail
      go_ret
      exact ⟨rb (by rw [unhide HD]; exact (decide_eq_false (by omega)).symm), rfl⟩
  · go_enter Tryd.func43, Tryd.ntmps43
    go_wp2_with fail
    go_ret
    exact ⟨rb (by rw [unhide HD]; exact (decide_eq_false (by omega)).symm), rfl⟩

set_option maxHeartbeats 4000000 in
theorem size_any {w : World} {b o : Nat} {C : Nat → Value} {f : PF} (h : FnAt w b o C f) :
    Calls Tryd.prog 27 #[.pointer (some ⟨b, o, none⟩)] w fun e w' => e = .returned (.bool (sizeOk f)) ∧ ∃ k, w' = w.drewN k := by
  have c3 := h.c3
  have c1 := h.c1
  have c2 := h.c2
  obtain ⟨g, cap, hC, _, _⟩ := h.fn.2.2.2.1
  rw [hC] at c3
  have HD : Hid (sizeOk f = (decide (1 ≤ (f.code.length : Int) ∧ (f.code.length : Int) ≤ 5000) && decide (0 ≤ f.params ∧ f.params ≤ 8) && decide (f.params ≤ f.slots ∧ f.slots ≤ 200))) := rfl
  clear h hC
  generalize f.code.length = N at *
  generalize f.params = p at *
  generalize f.slots = s at *
  by_cases h1 : (1 : Int) ≤ N
  · have d1 : decide ((1 : Int) ≤ N) = true := by simpa using h1
    by_cases h2 : (N : Int) ≤ 5000
    · have d2 : decide ((N : Int) ≤ 5000) = true := by simpa using h2
      by_cases h3 : 0 ≤ p
      · have d3 : decide (0 ≤ p) = true := by simpa using h3
        by_cases h4 : p ≤ 8
        · have d4 : decide (p ≤ 8) = true := by simpa using h4
          by_cases h5 : p ≤ s
          · have d5 : decide (p ≤ s) = true := by simpa using h5
            go_enter Tryd.func27, Tryd.ntmps27
            go_wp2_with fail
            go_quiet (fail)
            go_wp2_with fail
            go_ret
            exact ⟨rb (by rw [unhide HD]; simp [h1, h2, h3, h4, h5]), _, rfl⟩
          · have d5 : decide (p ≤ s) = false := by simpa using h5
            go_enter Tryd.func27, Tryd.ntmps27
            go_wp2_with fail
            go_quiet (fail)
            go_wp2_with fail
            go_ret
            exact ⟨rb (by rw [unhide HD]; simp [h1, h2, h3, h4]; omega), _, rfl⟩
        · have d4 : decide (p ≤ 8) = false := by simpa using h4
          go_enter Tryd.func27, Tryd.ntmps27
          go_wp2_with fail
          go_quiet (fail)
          go_wp2_with fail
          go_ret
          exact ⟨rb (by rw [unhide HD]; simp; omega), _, rfl⟩
      · have d3 : decide (0 ≤ p) = false := by simpa using h3
        go_enter Tryd.func27, Tryd.ntmps27
        go_wp2_with fail
        go_quiet (fail)
        go_wp2_with fail
        go_ret
        exact ⟨rb (by rw [unhide HD]; simp; omega), _, rfl⟩
    · have d2 : decide ((N : Int) ≤ 5000) = false := by simpa using h2
      go_enter Tryd.func27, Tryd.ntmps27
      go_wp2_with fail
      go_quiet (fail)
      go_wp2_with fail
      go_ret
      exact ⟨rb (by rw [unhide HD]; simp; omega), _, rfl⟩
  · have d1 : decide ((1 : Int) ≤ N) = false := by simpa using h1
    go_enter Tryd.func27, Tryd.ntmps27
    go_wp2_with fail
    go_quiet (fail)
    go_wp2_with fail
    go_ret
    exact ⟨rb (by rw [unhide HD]; simp; omega), _, rfl⟩
end Go.Proofs.YtpfhnmgfcmkidaaDoor
