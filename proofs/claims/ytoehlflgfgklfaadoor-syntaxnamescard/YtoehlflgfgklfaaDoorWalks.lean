/-
  The walks of SyntaxNames: what each function on its road answers, as a plain Bool, with the world as it was.
-/
import Derived.Test.YtoehlflgfgklfaaDoorRows
import Derived.WalkKit
import Derived.WalkSpells
import Derived.WalkLawsBesides
namespace Go.Proofs.YtoehlflgfgklfaaDoor
open Go.RowKit

/-- A digit, by its byte. -/
def dg (c : Int) : Bool := decide (48 ≤ c) && decide (c ≤ 57)
/-- A letter, by its byte. -/
def lt (c : Int) : Bool := decide (97 ≤ c) && decide (c ≤ 122) || decide (65 ≤ c) && decide (c ≤ 90) || decide (c = 95)

theorem rb {a b : Bool} (h : a = b) : Ending.returned (.bool a) = .returned (.bool b) := by rw [h]

set_option maxHeartbeats 400000 in
theorem dig6 (c : Int) (w : World) : Calls Tryd.prog 6 #[.int .u8 c] w fun e w' => e = .returned (.bool (dg c)) ∧ w' = w := by
  rcases (by omega : (48 ≤ c ∧ c ≤ 57) ∨ c < 48 ∨ (48 ≤ c ∧ 57 < c)) with ⟨h1, h2⟩ | h1 | ⟨h1, h2⟩
  all_goals
    go_enter Tryd.func6, Tryd.ntmps6
    go_wp2
    go_ret
    exact ⟨rb (by rw [Bool.eq_iff_iff]; simp [dg]; omega), rfl⟩

set_option maxHeartbeats 400000 in
theorem dig10 (c : Int) (w : World) : Calls Tryd.prog 10 #[.int .u8 c] w fun e w' => e = .returned (.bool (dg c)) ∧ w' = w := by
  rcases (by omega : (48 ≤ c ∧ c ≤ 57) ∨ c < 48 ∨ (48 ≤ c ∧ 57 < c)) with ⟨h1, h2⟩ | h1 | ⟨h1, h2⟩
  all_goals
    go_enter Tryd.func10, Tryd.ntmps10
    go_wp2
    go_ret
    exact ⟨rb (by rw [Bool.eq_iff_iff]; simp [dg]; omega), rfl⟩

theorem cases5 (c : Int) : (97 ≤ c ∧ c ≤ 122) ∨ (65 ≤ c ∧ c ≤ 90) ∨ c = 95 ∨ c < 65 ∨ (90 < c ∧ c < 95) ∨ c = 96 ∨ 122 < c := by omega

set_option maxHeartbeats 1000000 in
theorem let12 (c : Int) (w : World) : Calls Tryd.prog 12 #[.int .u8 c] w fun e w' => e = .returned (.bool (lt c)) ∧ w' = w := by
  rcases cases5 c with ⟨h1, h2⟩ | ⟨h1, h2⟩ | h1 | h1 | ⟨h1, h2⟩ | h1 | h1
  all_goals
    go_enter Tryd.func12, Tryd.ntmps12
    go_wp2
    go_ret
  all_goals exact ⟨rb (by rw [Bool.eq_iff_iff]; simp [lt]; omega), rfl⟩

set_option maxHeartbeats 1000000 in
theorem let9 (c : Int) (w : World) : Calls Tryd.prog 9 #[.int .u8 c] w fun e w' => e = .returned (.bool (lt c)) ∧ w' = w := by
  rcases cases5 c with ⟨h1, h2⟩ | ⟨h1, h2⟩ | h1 | h1 | ⟨h1, h2⟩ | h1 | h1
  all_goals
    go_enter Tryd.func9, Tryd.ntmps9
    go_wp2
    go_ret
  all_goals exact ⟨rb (by rw [Bool.eq_iff_iff]; simp [lt]; omega), rfl⟩

set_option maxHeartbeats 400000 in
theorem nb8 (c : Int) (w : World) : Calls Tryd.prog 8 #[.int .u8 c] w fun e w' => e = .returned (.bool (lt c || dg c)) ∧ w' = w := by
  cases hl : lt c
  all_goals
    go_enter Tryd.func8, Tryd.ntmps8
    go_wp2_with (first | (go_at_call 12; refine (let12 _ _).mono ?_; rintro e w' ⟨rfl, rfl⟩) | (go_at_call 6; refine (dig6 _ _).mono ?_; rintro e w' ⟨rfl, rfl⟩))
    go_ret
    exact ⟨rb (by simp), rfl⟩

end Go.Proofs.YtoehlflgfgklfaaDoor
