/-
  The sum of bytes.
-/
import Derived.Test.YtkafldkhmkdafaaGreatDoorM25
namespace Go.Proofs.YtkafldkhmkdafaaGreatDoor
open Go.RowKit

/-- Bytes lie behind an address. -/
structure BytesAt (w : World) (g : Option Addr) (l : List Int) : Prop where
  cell : ∀ i, i < l.length → ∃ b o, g = some ⟨b, o, none⟩ ∧ w.cell? ⟨b, o + i, none⟩ = some (.int .u8 (l.getD i 0))
  byte : ∀ x ∈ l, 0 ≤ x ∧ x < 256
theorem BytesAt.keep {w w' : World} {g : Option Addr} {l : List Int} (h : BytesAt w g l) (hb : Below w.heap.size w w') : BytesAt w' g l :=
  ⟨fun i hi => by
    obtain ⟨b, o, e, hc⟩ := h.cell i hi
    exact ⟨b, o, e, cellk hb hc (cell_lt hc)⟩, h.byte⟩
theorem BytesAt.take {w : World} {g : Option Addr} {l : List Int} (h : BytesAt w g l) (n : Nat) : BytesAt w g (l.take n) :=
  ⟨fun i hi => by
    have hi' : i < l.length ∧ i < n := by simp at hi; omega
    obtain ⟨b, o, e, hc⟩ := h.cell i hi'.1
    exact ⟨b, o, e, by rw [getD_take hi'.2]; exact hc⟩, fun x hx => h.byte x (List.mem_of_mem_take hx)⟩
theorem take_succ_get {l : List Int} {k : Nat} (h : k < l.length) : l.take (k + 1) = l.take k ++ [l.getD k 0] := by
  rw [List.take_add_one]
  simp [List.getD, h]

set_option maxRecDepth 100000 in
set_option maxHeartbeats 4000000 in
theorem sum_any {w : World} {g : Option Addr} {l : List Int} (h : BytesAt w g l) (cap : Nat) (hl : l.length ≤ 20000000) :
    Calls Tryz.prog 24 #[.slice g l.length cap] w fun e w' => e = .returned (.int .i64 (sumL l)) ∧ w' = w := by
  have H := hide h
  clear h
  go_enter Tryz.func24, Tryz.ntmps24
  go_wp2_with fail
  go_loopg [3, 8] l.length (fun gg s i wr => ∃ (k : Nat) (S : Int), k ≤ l.length ∧ gg = l.length - k ∧ i = .int .i64 k ∧ s = .int .i64 S ∧ 0 ≤ S ∧ S < 8191 ∧ Hid (S = sumL (l.take k)) ∧ wr = w)
  case atStart => exact ⟨0, 7, Nat.zero_le _, rfl, rfl, rfl, by omega, by omega, rfl, rfl⟩
  case round =>
    obtain ⟨k, S, hk, rfl, rfl, rfl, hS0, hS1, HS, rfl⟩ := hrel
    by_cases hlk : k < l.length
    · obtain ⟨b, o, rfl, hc⟩ := (unhide H).cell k hlk
      have hx := (unhide H).byte (l.getD k 0) (by rw [show l.getD k 0 = l[k] by simp [List.getD, hlk]]; exact List.getElem_mem _)
      have HT := hide (take_succ_get hlk)
      generalize l.getD k 0 = x at *
      have hk2 : (k : Int) < (l.length : Int) := by omega
      go_wp2_with fail
      go_roundg (l.length - (k + 1))
      case measure => omega
      case rel =>
        refine ⟨k + 1, (37 * S + x) % 8191, by omega, rfl, by go_num, rfl, by omega, by omega, ?_, rfl⟩
        show (37 * S + x) % 8191 = sumL (l.take (k + 1))
        rw [unhide HT, sumL_snoc, ← unhide HS]
    · have hk2 : ¬ (k : Int) < (l.length : Int) := by omega
      go_wp2_with fail
      go_ret
      refine ⟨?_, rfl⟩
      have e := unhide HS
      rw [List.take_of_length_le (by omega)] at e
      exact ri e
end Go.Proofs.YtkafldkhmkdafaaGreatDoor
