/-
  The walks of SyntaxNames' two sides: 'syntax.Name' and the document's 'IsName' answer one and the same Bool.
-/
import Derived.Test.YtoehlflgfgklfaaDoorWords
namespace Go.Proofs.YtoehlflgfgklfaaDoor
open Go.RowKit

/-- A text may be a name: 1 to 16 bytes, no digit first, letters and digits alone, on no list of words. -/
def nameB (ws : List ByteArray) (s : ByteArray) : Bool :=
  decide (1 ≤ s.size ∧ s.size ≤ 16) && decide (∀ (i : Nat) (h : i < s.size), (lt (s[i]'h).toNat || (decide (0 < i) && dg (s[i]'h).toNat)) = true) && !onList ws s

theorem toList_nil {s : ByteArray} (h : s.size = 0) : s.toList = [] := by
  rw [ByteArray.toList_eq]
  exact Array.toList_eq_nil_iff.2 (Array.eq_empty_of_size_eq_zero h)
theorem toList_ne {s : ByteArray} (h : 0 < s.size) : s.toList.isEmpty = false := by
  rw [ByteArray.toList_eq, Bool.eq_false_iff]
  intro e
  have e' := Array.toList_eq_nil_iff.1 (List.isEmpty_iff.1 e)
  have : s.size = s.data.size := rfl
  rw [this, e'] at h
  exact absurd h (by decide)

theorem name_short {ws : List ByteArray} {s : ByteArray} (h : s.size = 0) : nameB ws s = false := by simp [nameB, h]
theorem name_long {ws : List ByteArray} {s : ByteArray} (h : 16 < s.size) : nameB ws s = false := by
  have : ¬ (1 ≤ s.size ∧ s.size ≤ 16) := by omega
  simp only [nameB, decide_eq_false this, Bool.false_and]
theorem name_at {ws : List ByteArray} {s : ByteArray} (i : Nat) (h : i < s.size) (hb : (lt (s[i]'h).toNat || (decide (0 < i) && dg (s[i]'h).toNat)) = false) : nameB ws s = false := by
  have : ¬ ∀ (i : Nat) (h : i < s.size), (lt (s[i]'h).toNat || (decide (0 < i) && dg (s[i]'h).toNat)) = true := fun hh => by
    rw [hh i h] at hb; cases hb
  simp only [nameB, decide_eq_false this, Bool.and_false, Bool.false_and]
theorem name_word {ws : List ByteArray} {s : ByteArray} (h : onList ws s = true) : nameB ws s = false := by
  simp only [nameB, h, Bool.not_true, Bool.and_false]
theorem name_yes {ws : List ByteArray} {s : ByteArray} (h : onList ws s = false) (h1 : 1 ≤ s.size) (h2 : s.size ≤ 16)
    (hb : ∀ (i : Nat) (h : i < s.size), (lt (s[i]'h).toNat || (decide (0 < i) && dg (s[i]'h).toNat)) = true) : nameB ws s = true := by
  simp only [nameB, h, decide_eq_true hb, decide_eq_true (And.intro h1 h2), Bool.not_false, Bool.and_true]
theorem lt_dg (c : Int) (h : dg c = true) : lt c = false := by
  simp [dg] at h; rw [Bool.eq_false_iff]; simp [lt]; omega

set_option maxHeartbeats 400000 in
theorem name4 (ws : List ByteArray) (hl : ws.length = 20) (s : ByteArray) (w : World) (tt : TypeId) (fr : Nat × Nat) (hg : w.heap[1]? = some (.cells (ws.map Value.string).toArray tt fr)) :
    Calls Tryd.prog 4 #[.string s] w fun e w' => e = .returned (.bool (nameB ws s)) ∧ w' = w := by
  by_cases h0 : s.size = 0
  · have hn := toList_nil h0
    have HN := hide (name_short (ws := ws) h0)
    go_enter Tryd.func4, Tryd.ntmps4
    go_wp2_with fail
    go_ret
    exact ⟨rb (unhide HN).symm, rfl⟩
  have hp : 0 < s.size := by omega
  clear h0
  have hne := toList_ne hp
  by_cases h16 : 16 < s.size
  · have HN := hide (name_long (ws := ws) h16)
    go_enter Tryd.func4, Tryd.ntmps4
    go_wp2_with fail
    go_ret
    exact ⟨rb (unhide HN).symm, rfl⟩
  have h16' : decide (16 < (s.size : Int)) = false := by simp; omega
  have W7 := hide (word7 ws hl s w tt fr hg)
  clear hg hl
  cases hd : dg (s[0]'hp).toNat
  · cases hw : onList ws s
    · go_enter Tryd.func4, Tryd.ntmps4
      go_wp2_with (first | (go_at_call 6; refine (dig6 _ _).mono ?_; rintro e w' ⟨rfl, rfl⟩) | (go_at_call 7; refine (unhide W7).mono ?_; rintro e w' ⟨rfl, rfl⟩))
      go_loop [22] (fun i => ∃ k : Nat, k ≤ s.size ∧ i = .int .i64 k ∧ ∀ (j : Nat) (h : j < s.size), j < k → (lt (s[j]'h).toNat || (decide (0 < j) && dg (s[j]'h).toNat)) = true) (fun i => s.size - (intOf i).toNat)
      case atStart => exact ⟨0, by omega, rfl, fun j _ h => by omega⟩
      case round =>
        obtain ⟨k, hk, rfl, hno⟩ := hrel
        have HN := hide hno
        clear hno
        by_cases hlt : k < s.size
        · cases hb : (lt (s[k]'hlt).toNat || dg (s[k]'hlt).toNat)
          · have HM := hide (name_at (ws := ws) k hlt (by
              simp only [Bool.or_eq_false_iff] at hb
              simp only [hb.1, hb.2, Bool.and_false, Bool.or_false]))
            go_wp2_with (go_at_call 8; refine (nb8 _ _).mono ?_; rintro e w' ⟨rfl, rfl⟩)
            go_ret
            exact ⟨rb (unhide HM).symm, rfl⟩
          · have HM : Hid ((lt (s[k]'hlt).toNat || (decide (0 < k) && dg (s[k]'hlt).toNat)) = true) := by
              by_cases hz : 0 < k
              · simpa [Hid, hz] using hb
              · have hz' : k = 0 := by omega
                subst hz'
                simpa [Hid, hd] using hb
            go_wp2_with (go_at_call 8; refine (nb8 _ _).mono ?_; rintro e w' ⟨rfl, rfl⟩)
            go_round
            case rel =>
              refine ⟨k + 1, by omega, by go_num, fun j hj hj' => ?_⟩
              by_cases e : j = k
              · subst e; exact unhide HM
              · exact unhide HN j hj (by omega)
            case measure => simp [intOf]; omega
        · go_wp2_with fail
          go_ret
          exact ⟨rb (name_yes hw (by omega) (by omega) (fun i hi => unhide HN i hi (by omega))).symm, rfl⟩
    · have HN := hide (name_word hw)
      go_enter Tryd.func4, Tryd.ntmps4
      go_wp2_with (first | (go_at_call 6; refine (dig6 _ _).mono ?_; rintro e w' ⟨rfl, rfl⟩) | (go_at_call 7; refine (unhide W7).mono ?_; rintro e w' ⟨rfl, rfl⟩))
      go_ret
      exact ⟨rb (unhide HN).symm, rfl⟩
  · have HN := hide (name_at (ws := ws) 0 hp (by rw [lt_dg _ hd]; rfl))
    go_enter Tryd.func4, Tryd.ntmps4
    go_wp2_with (first | (go_at_call 6; refine (dig6 _ _).mono ?_; rintro e w' ⟨rfl, rfl⟩) | (go_at_call 7; refine (unhide W7).mono ?_; rintro e w' ⟨rfl, rfl⟩))
    go_ret
    exact ⟨rb (unhide HN).symm, rfl⟩

set_option maxHeartbeats 1000000 in
theorem isName5 (ws : List ByteArray) (hl : ws.length = 20) (s : ByteArray) (hs : s.size ≤ 50) (w : World) (b off cap : Nat) (h0c : w.cell? ⟨0, 0, none⟩ = some (.slice (some ⟨b, off, none⟩) 20 cap))
    (hc : ∀ k, k < 20 → w.cell? ⟨b, off + k, none⟩ = some (.string (ws[k]?.getD ByteArray.empty))) :
    Calls Tryd.prog 5 #[.string s] w fun e w' => e = .returned (.bool (nameB ws s)) ∧ w' = w := by
  have W11 := hide (has11 ws hl s w b off cap hc)
  clear hc hl
  go_enter Tryd.func5, Tryd.ntmps5
  go_wp2_with fail
  go_loop [6] (fun i => ∃ k : Nat, k ≤ s.size ∧ i = .int .i64 k ∧ ∀ (j : Nat) (h : j < s.size), j < k → (lt (s[j]'h).toNat || (decide (0 < j) && dg (s[j]'h).toNat)) = true) (fun i => s.size - (intOf i).toNat)
  case atStart => exact ⟨0, by omega, rfl, fun j _ h => by omega⟩
  case round =>
    obtain ⟨k, hk, rfl, hno⟩ := hrel
    have HN := hide hno
    clear hno
    by_cases hlt : k < s.size
    · cases hb : lt (s[k]'hlt).toNat
      · by_cases hz : k = 0
        · subst hz
          have HM := hide (name_at (ws := ws) 0 hlt (by rw [hb]; rfl))
          go_wp2_with (go_at_call 9; refine (let9 _ _).mono ?_; rintro e w' ⟨rfl, rfl⟩)
          go_ret
          exact ⟨rb (unhide HM).symm, rfl⟩
        · have hz' : ((k : Int) == 0) = false := by rw [beq_eq_false_iff_ne]; omega
          cases hd : dg (s[k]'hlt).toNat
          · have HM := hide (name_at (ws := ws) k hlt (by rw [hb, hd, Bool.and_false]; rfl))
            go_wp2_with (first | (go_at_call 9; refine (let9 _ _).mono ?_; rintro e w' ⟨rfl, rfl⟩) | (go_at_call 10; refine (dig10 _ _).mono ?_; rintro e w' ⟨rfl, rfl⟩))
            go_ret
            exact ⟨rb (unhide HM).symm, rfl⟩
          · have HM := hide (show (lt (s[k]'hlt).toNat || (decide (0 < k) && dg (s[k]'hlt).toNat)) = true by rw [hd, Bool.and_true, decide_eq_true (by omega : 0 < k), Bool.or_true])
            go_wp2_with (first | (go_at_call 9; refine (let9 _ _).mono ?_; rintro e w' ⟨rfl, rfl⟩) | (go_at_call 10; refine (dig10 _ _).mono ?_; rintro e w' ⟨rfl, rfl⟩))
            go_round
            case rel =>
              refine ⟨k + 1, by omega, by go_num, fun j hj hj' => ?_⟩
              by_cases e : j = k
              · subst e; exact unhide HM
              · exact unhide HN j hj (by omega)
            case measure => simp [intOf]; omega
      · have HM := hide (show (lt (s[k]'hlt).toNat || (decide (0 < k) && dg (s[k]'hlt).toNat)) = true by rw [hb, Bool.true_or])
        go_wp2_with (go_at_call 9; refine (let9 _ _).mono ?_; rintro e w' ⟨rfl, rfl⟩)
        go_round
        case rel =>
          refine ⟨k + 1, by omega, by go_num, fun j hj hj' => ?_⟩
          by_cases e : j = k
          · subst e; exact unhide HM
          · exact unhide HN j hj (by omega)
        case measure => simp [intOf]; omega
    · have hall : Hid (∀ (i : Nat) (h : i < s.size), (lt (s[i]'h).toNat || (decide (0 < i) && dg (s[i]'h).toNat)) = true) := fun i hi => unhide HN i hi (by omega)
      clear HN
      by_cases hz : s.size = 0
      · have HM := hide (name_short (ws := ws) hz)
        have hz' : decide (0 < (s.size : Int)) = false := decide_eq_false (by omega)
        go_wp2_with fail
        go_ret
        exact ⟨rb (unhide HM).symm, rfl⟩
      · have hz' : decide (0 < (s.size : Int)) = true := decide_eq_true (by omega)
        by_cases h16 : s.size ≤ 16
        · have h16' : decide ((s.size : Int) ≤ 16) = true := by simp; omega
          cases hw : onList ws s
          · have HM := hide (name_yes hw (by omega) h16 (unhide hall))
            go_wp2_with (go_at_call 11; refine (unhide W11).mono ?_; rintro e w' ⟨rfl, rfl⟩)
            go_ret
            exact ⟨rb (unhide HM).symm, rfl⟩
          · have HM := hide (name_word hw)
            go_wp2_with (go_at_call 11; refine (unhide W11).mono ?_; rintro e w' ⟨rfl, rfl⟩)
            go_ret
            exact ⟨rb (unhide HM).symm, rfl⟩
        · have h16' : decide ((s.size : Int) ≤ 16) = false := by simp; omega
          have HM := hide (name_long (ws := ws) (by omega : 16 < s.size))
          go_wp2_with fail
          go_ret
          exact ⟨rb (unhide HM).symm, rfl⟩

set_option maxHeartbeats 400000 in
theorem law3 (ws : List ByteArray) (hl : ws.length = 20) (s : ByteArray) (w : World) (tt : TypeId) (fr : Nat × Nat) (hg : w.heap[1]? = some (.cells (ws.map Value.string).toArray tt fr))
    (b off cap : Nat) (h0c : w.cell? ⟨0, 0, none⟩ = some (.slice (some ⟨b, off, none⟩) 20 cap)) (hc : ∀ k, k < 20 → w.cell? ⟨b, off + k, none⟩ = some (.string (ws[k]?.getD ByteArray.empty))) :
    Calls Tryd.prog 3 #[.string s] w fun e w' => e = .returned (.bool true) ∧ w' = w := by
  by_cases h50 : 50 < s.size
  · go_enter Tryd.func3, Tryd.ntmps3
    go_wp2_with fail
    go_ret
    exact ⟨rfl, rfl⟩
  · have h50' : decide (50 < (s.size : Int)) = false := by simp; omega
    have N4 := hide (name4 ws hl s w tt fr hg)
    have N5 := hide (isName5 ws hl s (by omega) w b off cap h0c hc)
    clear hg h0c hc hl
    go_enter Tryd.func3, Tryd.ntmps3
    go_wp2_with (first | (go_at_call 4; refine (unhide N4).mono ?_; rintro e w' ⟨rfl, rfl⟩) | (go_at_call 5; refine (unhide N5).mono ?_; rintro e w' ⟨rfl, rfl⟩))
    go_ret
    exact ⟨rb (by simp), rfl⟩
end Go.Proofs.YtoehlflgfgklfaaDoor
