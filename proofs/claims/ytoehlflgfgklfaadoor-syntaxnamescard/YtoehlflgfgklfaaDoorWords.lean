/-
  The walks of SyntaxNames over the two lists of words: 'isWord' and 'has' say whether a text is on a list.
-/
import Derived.Test.YtoehlflgfgklfaaDoorWalks
namespace Go.Proofs.YtoehlflgfgklfaaDoor
open Go.RowKit

/-- A text is on a list. -/
def onList (ws : List ByteArray) (s : ByteArray) : Bool := ws.any fun x => x.toList == s.toList

theorem onList_hit {ws : List ByteArray} {s : ByteArray} {k : Nat} (hk : k < ws.length) (h : ((ws[k]?.getD ByteArray.empty).toList == s.toList) = true) : onList ws s = true := by
  simp only [onList, List.any_eq_true]
  refine ⟨ws[k], List.getElem_mem hk, ?_⟩
  rw [List.getElem?_eq_getElem hk] at h
  exact h
theorem onList_miss {ws : List ByteArray} {s : ByteArray} (h : ∀ j, j < ws.length → ((ws[j]?.getD ByteArray.empty).toList == s.toList) = false) : onList ws s = false := by
  simp only [onList, List.any_eq_false]
  intro x hm
  obtain ⟨i, hi, he⟩ := List.mem_iff_getElem.1 hm
  have := h i hi
  rw [List.getElem?_eq_getElem hi, he] at this
  simp only [Option.getD_some] at this
  rw [this]
  decide

theorem hide {p : Prop} (h : p) : Hid p := h
theorem unhide {p : Prop} (h : Hid p) : p := h

theorem cells9 : Tryd.prog.cellsOf 9 = 1 := by kernel_rfl

set_option maxHeartbeats 400000 in
theorem word7 (ws : List ByteArray) (hl : ws.length = 20) (s : ByteArray) (w : World) (tt : TypeId) (fr : Nat × Nat) (hg : w.heap[1]? = some (.cells (ws.map Value.string).toArray tt fr)) :
    Calls Tryd.prog 7 #[.string s] w fun e w' => e = .returned (.bool (onList ws s)) ∧ w' = w := by
  have hsz : (Tryd.prog.info? 26).map (·.size) = some (ws.map Value.string).toArray.size := by
    rw [List.size_toArray, List.length_map, hl]; kernel_rfl
  have hidx : ∀ (k : Nat), k < 20 → ∀ w1 : World, (Instr.index 26 (.agg (ws.map Value.string).toArray) (.int .i64 k)).run Tryd.prog w1 = .ok (.string (ws[k]?.getD ByteArray.empty)) w1 := by
    intro k hk w1
    have hk' : k < ws.length := by omega
    simp [Instr.index, run_underlying Tryd.underlying26, asIntOf, part, hk', go_sem]
    intro h; omega
  have HL : Hid (ws.length = 20) := hl
  clear hl
  go_enter Tryd.func7, Tryd.ntmps7
  go_wp2_with (refine wpList_load_row rfl 26 _ rfl 1 rfl tt _ fr _ hg Tryd.underlying26 rfl hsz ?_)
  go_loop [6] (fun i => ∃ k : Nat, k ≤ 20 ∧ i = .int .i64 k ∧ ∀ j, j < k → ((ws[j]?.getD ByteArray.empty).toList == s.toList) = false) (fun i => 20 - (intOf i).toNat)
  case atStart => exact ⟨0, by omega, rfl, fun j h => by omega⟩
  case round =>
    obtain ⟨k, hk, rfl, hno⟩ := hrel
    have HN := hide hno
    clear hno
    by_cases hlt : k < 20
    · have hi := hidx k hlt
      cases hw : ((ws[k]?.getD ByteArray.empty).toList == s.toList)
      · have HW := hide hw
        go_wp2
        go_round
        case rel =>
          refine ⟨k + 1, by omega, by go_num, fun j hj => ?_⟩
          by_cases e : j = k
          · subst e; exact unhide HW
          · exact unhide HN j (by omega)
        case measure => simp [intOf]; omega
      · have HW := hide hw
        go_wp2
        go_ret
        exact ⟨rb (onList_hit (by rw [HL.out]; exact hlt) (unhide HW)).symm, rfl⟩
    · go_wp2
      go_ret
      exact ⟨rb (onList_miss (fun j hj => unhide HN j (by have := HL.out; omega))).symm, rfl⟩

set_option maxHeartbeats 400000 in
theorem has11 (ws : List ByteArray) (hl : ws.length = 20) (s : ByteArray) (w : World) (b off cap : Nat) (hc : ∀ k, k < 20 → w.cell? ⟨b, off + k, none⟩ = some (.string (ws[k]?.getD ByteArray.empty))) :
    Calls Tryd.prog 11 #[.slice (some ⟨b, off, none⟩) 20 cap, .string s] w fun e w' => e = .returned (.bool (onList ws s)) ∧ w' = w := by
  have HL : Hid (ws.length = 20) := hl
  clear hl
  go_enter Tryd.func11, Tryd.ntmps11
  go_wp2
  go_loop [9] (fun i => ∃ k : Nat, k ≤ 20 ∧ i = .int .i64 k ∧ ∀ j, j < k → ((ws[j]?.getD ByteArray.empty).toList == s.toList) = false) (fun i => 20 - (intOf i).toNat)
  case atStart => exact ⟨0, by omega, rfl, fun j h => by omega⟩
  case round =>
    obtain ⟨k, hk, rfl, hno⟩ := hrel
    have HN := hide hno
    clear hno
    by_cases hlt : k < 20
    · have hi := hc k hlt
      cases hw : ((ws[k]?.getD ByteArray.empty).toList == s.toList)
      · have HW := hide hw
        go_wp2
        go_round
        case rel =>
          refine ⟨k + 1, by omega, by go_num, fun j hj => ?_⟩
          by_cases e : j = k
          · subst e; exact unhide HW
          · exact unhide HN j (by omega)
        case measure => simp [intOf]; omega
      · have HW := hide hw
        go_wp2
        go_ret
        exact ⟨rb (onList_hit (by rw [HL.out]; exact hlt) (unhide HW)).symm, rfl⟩
    · go_wp2
      go_ret
      exact ⟨rb (onList_miss (fun j hj => unhide HN j (by have := HL.out; omega))).symm, rfl⟩
end Go.Proofs.YtoehlflgfgklfaaDoor
