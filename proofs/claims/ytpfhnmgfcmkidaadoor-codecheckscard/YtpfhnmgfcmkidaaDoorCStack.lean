/-
  What instructions take and leave.
-/
import Derived.Test.YtpfhnmgfcmkidaaDoorCLeaf
namespace Go.Proofs.YtpfhnmgfcmkidaaDoor
open Go.RowKit

def StackPost (i : PI) (w : World) (e : Ending) (w' : World) : Prop := e = .returned (.tuple #[.int .i64 (takes i), .int .i64 (leaves i)]) ∧ Below w.heap.size w w'
theorem StackPost.mk {i : PI} {w w' : World} {a b : Int} (ha : a = takes i) (hb : b = leaves i) (h : Below w.heap.size w w') : StackPost i w (.returned (.tuple #[.int .i64 a, .int .i64 b])) w' := by
  rw [ha, hb]; exact ⟨rfl, h⟩
theorem fewB_true {n : Int} (h : fewB n = true) : 0 ≤ n ∧ n ≤ 50 := by simpa [fewB, inB] using h
theorem nameOk_34 {m : PM} {s : Int} {n : Nat} {a b : Int} (h : nameOk m s n ⟨34, a, b⟩ = true) : 0 ≤ b ∧ b ≤ 50 := by
  have h' : (isText m a && fewB b) = true := h
  rw [Bool.and_eq_true] at h'
  exact fewB_true h'.2
theorem nameOk_37 {m : PM} {s : Int} {n : Nat} {a b : Int} (h : nameOk m s n ⟨37, a, b⟩ = true) : 0 ≤ b ∧ b ≤ 50 := fewB_true h
theorem nameOk_35 {m : PM} {s : Int} {n : Nat} {a b : Int} (h : nameOk m s n ⟨35, a, b⟩ = true) : 0 ≤ b := by
  have h' : (isText m a && decide (0 ≤ b) && belowB (b.tdiv 64) m.classes.length && fewB (b.tmod 64)) = true := h
  simp only [Bool.and_eq_true] at h'
  simpa using h'.1.1.2
theorem tmod64 {b : Int} (h : 0 ≤ b) : 0 ≤ b.tmod 64 ∧ b.tmod 64 < 64 := ⟨Int.tmod_nonneg 64 h, Int.tmod_lt_of_pos b (by decide)⟩

set_option maxHeartbeats 1000000 in
theorem st_1 (a b : Int) (w : World) : Calls Tryd.prog 64 #[.agg #[.int .i64 1, .int .i64 a, .int .i64 b]] w fun e w' => StackPost ⟨1, a, b⟩ w e w' := by
  go_enter Tryd.func64, Tryd.ntmps64
  go_wp2_with fail
  go_ret2
  exact StackPost.mk rfl rfl ((Below.refl _ _).alloc (Nat.le_refl _) _)
set_option maxHeartbeats 1000000 in
theorem st_2 (a b : Int) (w : World) : Calls Tryd.prog 64 #[.agg #[.int .i64 2, .int .i64 a, .int .i64 b]] w fun e w' => StackPost ⟨2, a, b⟩ w e w' := by
  go_enter Tryd.func64, Tryd.ntmps64
  go_wp2_with fail
  go_ret2
  exact StackPost.mk rfl rfl ((Below.refl _ _).alloc (Nat.le_refl _) _)
set_option maxHeartbeats 1000000 in
theorem st_3 (a b : Int) (w : World) : Calls Tryd.prog 64 #[.agg #[.int .i64 3, .int .i64 a, .int .i64 b]] w fun e w' => StackPost ⟨3, a, b⟩ w e w' := by
  go_enter Tryd.func64, Tryd.ntmps64
  go_wp2_with fail
  go_ret2
  exact StackPost.mk rfl rfl ((Below.refl _ _).alloc (Nat.le_refl _) _)
set_option maxHeartbeats 1000000 in
theorem st_4 (a b : Int) (w : World) : Calls Tryd.prog 64 #[.agg #[.int .i64 4, .int .i64 a, .int .i64 b]] w fun e w' => StackPost ⟨4, a, b⟩ w e w' := by
  go_enter Tryd.func64, Tryd.ntmps64
  go_wp2_with fail
  go_ret2
  exact StackPost.mk rfl rfl ((Below.refl _ _).alloc (Nat.le_refl _) _)
set_option maxHeartbeats 1000000 in
theorem st_5 (a b : Int) (w : World) : Calls Tryd.prog 64 #[.agg #[.int .i64 5, .int .i64 a, .int .i64 b]] w fun e w' => StackPost ⟨5, a, b⟩ w e w' := by
  go_enter Tryd.func64, Tryd.ntmps64
  go_wp2_with fail
  go_ret2
  exact StackPost.mk rfl rfl ((Below.refl _ _).alloc (Nat.le_refl _) _)
set_option maxHeartbeats 1000000 in
theorem st_6 (a b : Int) (w : World) : Calls Tryd.prog 64 #[.agg #[.int .i64 6, .int .i64 a, .int .i64 b]] w fun e w' => StackPost ⟨6, a, b⟩ w e w' := by
  go_enter Tryd.func64, Tryd.ntmps64
  go_wp2_with fail
  go_ret2
  exact StackPost.mk rfl rfl ((Below.refl _ _).alloc (Nat.le_refl _) _)
set_option maxHeartbeats 1000000 in
theorem st_7 (a b : Int) (w : World) : Calls Tryd.prog 64 #[.agg #[.int .i64 7, .int .i64 a, .int .i64 b]] w fun e w' => StackPost ⟨7, a, b⟩ w e w' := by
  go_enter Tryd.func64, Tryd.ntmps64
  go_wp2_with fail
  go_ret2
  exact StackPost.mk rfl rfl ((Below.refl _ _).alloc (Nat.le_refl _) _)
set_option maxHeartbeats 1000000 in
theorem st_8 (a b : Int) (w : World) : Calls Tryd.prog 64 #[.agg #[.int .i64 8, .int .i64 a, .int .i64 b]] w fun e w' => StackPost ⟨8, a, b⟩ w e w' := by
  go_enter Tryd.func64, Tryd.ntmps64
  go_wp2_with fail
  go_ret2
  exact StackPost.mk rfl rfl ((Below.refl _ _).alloc (Nat.le_refl _) _)
set_option maxHeartbeats 1000000 in
theorem st_9 (a b : Int) (w : World) : Calls Tryd.prog 64 #[.agg #[.int .i64 9, .int .i64 a, .int .i64 b]] w fun e w' => StackPost ⟨9, a, b⟩ w e w' := by
  go_enter Tryd.func64, Tryd.ntmps64
  go_wp2_with fail
  go_ret2
  exact StackPost.mk rfl rfl ((Below.refl _ _).alloc (Nat.le_refl _) _)
set_option maxHeartbeats 1000000 in
theorem st_10 (a b : Int) (w : World) : Calls Tryd.prog 64 #[.agg #[.int .i64 10, .int .i64 a, .int .i64 b]] w fun e w' => StackPost ⟨10, a, b⟩ w e w' := by
  go_enter Tryd.func64, Tryd.ntmps64
  go_wp2_with fail
  go_ret2
  exact StackPost.mk rfl rfl ((Below.refl _ _).alloc (Nat.le_refl _) _)
set_option maxHeartbeats 1000000 in
theorem st_11 (a b : Int) (w : World) : Calls Tryd.prog 64 #[.agg #[.int .i64 11, .int .i64 a, .int .i64 b]] w fun e w' => StackPost ⟨11, a, b⟩ w e w' := by
  go_enter Tryd.func64, Tryd.ntmps64
  go_wp2_with fail
  go_ret2
  exact StackPost.mk rfl rfl ((Below.refl _ _).alloc (Nat.le_refl _) _)
set_option maxHeartbeats 1000000 in
theorem st_12 (a b : Int) (w : World) : Calls Tryd.prog 64 #[.agg #[.int .i64 12, .int .i64 a, .int .i64 b]] w fun e w' => StackPost ⟨12, a, b⟩ w e w' := by
  go_enter Tryd.func64, Tryd.ntmps64
  go_wp2_with fail
  go_ret2
  exact StackPost.mk rfl rfl ((Below.refl _ _).alloc (Nat.le_refl _) _)
set_option maxHeartbeats 1000000 in
theorem st_13 (a b : Int) (w : World) : Calls Tryd.prog 64 #[.agg #[.int .i64 13, .int .i64 a, .int .i64 b]] w fun e w' => StackPost ⟨13, a, b⟩ w e w' := by
  go_enter Tryd.func64, Tryd.ntmps64
  go_wp2_with fail
  go_ret2
  exact StackPost.mk rfl rfl ((Below.refl _ _).alloc (Nat.le_refl _) _)
set_option maxHeartbeats 1000000 in
theorem st_14 (a b : Int) (w : World) : Calls Tryd.prog 64 #[.agg #[.int .i64 14, .int .i64 a, .int .i64 b]] w fun e w' => StackPost ⟨14, a, b⟩ w e w' := by
  go_enter Tryd.func64, Tryd.ntmps64
  go_wp2_with fail
  go_ret2
  exact StackPost.mk rfl rfl ((Below.refl _ _).alloc (Nat.le_refl _) _)
set_option maxHeartbeats 1000000 in
theorem st_15 (a b : Int) (w : World) : Calls Tryd.prog 64 #[.agg #[.int .i64 15, .int .i64 a, .int .i64 b]] w fun e w' => StackPost ⟨15, a, b⟩ w e w' := by
  go_enter Tryd.func64, Tryd.ntmps64
  go_wp2_with fail
  go_ret2
  exact StackPost.mk rfl rfl ((Below.refl _ _).alloc (Nat.le_refl _) _)
set_option maxHeartbeats 1000000 in
theorem st_16 (a b : Int) (w : World) : Calls Tryd.prog 64 #[.agg #[.int .i64 16, .int .i64 a, .int .i64 b]] w fun e w' => StackPost ⟨16, a, b⟩ w e w' := by
  go_enter Tryd.func64, Tryd.ntmps64
  go_wp2_with fail
  go_ret2
  exact StackPost.mk rfl rfl ((Below.refl _ _).alloc (Nat.le_refl _) _)
set_option maxHeartbeats 1000000 in
theorem st_17 (a b : Int) (w : World) : Calls Tryd.prog 64 #[.agg #[.int .i64 17, .int .i64 a, .int .i64 b]] w fun e w' => StackPost ⟨17, a, b⟩ w e w' := by
  go_enter Tryd.func64, Tryd.ntmps64
  go_wp2_with fail
  go_ret2
  exact StackPost.mk rfl rfl ((Below.refl _ _).alloc (Nat.le_refl _) _)
set_option maxHeartbeats 1000000 in
theorem st_18 (a b : Int) (w : World) : Calls Tryd.prog 64 #[.agg #[.int .i64 18, .int .i64 a, .int .i64 b]] w fun e w' => StackPost ⟨18, a, b⟩ w e w' := by
  go_enter Tryd.func64, Tryd.ntmps64
  go_wp2_with fail
  go_ret2
  exact StackPost.mk rfl rfl ((Below.refl _ _).alloc (Nat.le_refl _) _)
set_option maxHeartbeats 1000000 in
theorem st_19 (a b : Int) (w : World) : Calls Tryd.prog 64 #[.agg #[.int .i64 19, .int .i64 a, .int .i64 b]] w fun e w' => StackPost ⟨19, a, b⟩ w e w' := by
  go_enter Tryd.func64, Tryd.ntmps64
  go_wp2_with fail
  go_ret2
  exact StackPost.mk rfl rfl ((Below.refl _ _).alloc (Nat.le_refl _) _)
set_option maxHeartbeats 1000000 in
theorem st_20 (a b : Int) (w : World) : Calls Tryd.prog 64 #[.agg #[.int .i64 20, .int .i64 a, .int .i64 b]] w fun e w' => StackPost ⟨20, a, b⟩ w e w' := by
  go_enter Tryd.func64, Tryd.ntmps64
  go_wp2_with fail
  go_ret2
  exact StackPost.mk rfl rfl ((Below.refl _ _).alloc (Nat.le_refl _) _)
set_option maxHeartbeats 1000000 in
theorem st_21 (a b : Int) (w : World) : Calls Tryd.prog 64 #[.agg #[.int .i64 21, .int .i64 a, .int .i64 b]] w fun e w' => StackPost ⟨21, a, b⟩ w e w' := by
  go_enter Tryd.func64, Tryd.ntmps64
  go_wp2_with fail
  go_ret2
  exact StackPost.mk rfl rfl ((Below.refl _ _).alloc (Nat.le_refl _) _)
set_option maxHeartbeats 1000000 in
theorem st_22 (a b : Int) (w : World) : Calls Tryd.prog 64 #[.agg #[.int .i64 22, .int .i64 a, .int .i64 b]] w fun e w' => StackPost ⟨22, a, b⟩ w e w' := by
  go_enter Tryd.func64, Tryd.ntmps64
  go_wp2_with fail
  go_ret2
  exact StackPost.mk rfl rfl ((Below.refl _ _).alloc (Nat.le_refl _) _)
set_option maxHeartbeats 1000000 in
theorem st_23 (a b : Int) (w : World) : Calls Tryd.prog 64 #[.agg #[.int .i64 23, .int .i64 a, .int .i64 b]] w fun e w' => StackPost ⟨23, a, b⟩ w e w' := by
  go_enter Tryd.func64, Tryd.ntmps64
  go_wp2_with fail
  go_ret2
  exact StackPost.mk rfl rfl ((Below.refl _ _).alloc (Nat.le_refl _) _)
set_option maxHeartbeats 1000000 in
theorem st_24 (a b : Int) (w : World) : Calls Tryd.prog 64 #[.agg #[.int .i64 24, .int .i64 a, .int .i64 b]] w fun e w' => StackPost ⟨24, a, b⟩ w e w' := by
  go_enter Tryd.func64, Tryd.ntmps64
  go_wp2_with fail
  go_ret2
  exact StackPost.mk rfl rfl ((Below.refl _ _).alloc (Nat.le_refl _) _)
set_option maxHeartbeats 1000000 in
theorem st_25 (a b : Int) (w : World) : Calls Tryd.prog 64 #[.agg #[.int .i64 25, .int .i64 a, .int .i64 b]] w fun e w' => StackPost ⟨25, a, b⟩ w e w' := by
  go_enter Tryd.func64, Tryd.ntmps64
  go_wp2_with fail
  go_ret2
  exact StackPost.mk rfl rfl ((Below.refl _ _).alloc (Nat.le_refl _) _)
set_option maxHeartbeats 1000000 in
theorem st_26 (a b : Int) (w : World) : Calls Tryd.prog 64 #[.agg #[.int .i64 26, .int .i64 a, .int .i64 b]] w fun e w' => StackPost ⟨26, a, b⟩ w e w' := by
  go_enter Tryd.func64, Tryd.ntmps64
  go_wp2_with fail
  go_ret2
  exact StackPost.mk rfl rfl ((Below.refl _ _).alloc (Nat.le_refl _) _)
set_option maxHeartbeats 1000000 in
theorem st_27 (a b : Int) (w : World) : Calls Tryd.prog 64 #[.agg #[.int .i64 27, .int .i64 a, .int .i64 b]] w fun e w' => StackPost ⟨27, a, b⟩ w e w' := by
  go_enter Tryd.func64, Tryd.ntmps64
  go_wp2_with fail
  go_ret2
  exact StackPost.mk rfl rfl ((Below.refl _ _).alloc (Nat.le_refl _) _)
set_option maxHeartbeats 1000000 in
theorem st_28 (a b : Int) (w : World) : Calls Tryd.prog 64 #[.agg #[.int .i64 28, .int .i64 a, .int .i64 b]] w fun e w' => StackPost ⟨28, a, b⟩ w e w' := by
  go_enter Tryd.func64, Tryd.ntmps64
  go_wp2_with fail
  go_ret2
  exact StackPost.mk rfl rfl ((Below.refl _ _).alloc (Nat.le_refl _) _)
set_option maxHeartbeats 1000000 in
theorem st_29 (a b : Int) (w : World) : Calls Tryd.prog 64 #[.agg #[.int .i64 29, .int .i64 a, .int .i64 b]] w fun e w' => StackPost ⟨29, a, b⟩ w e w' := by
  go_enter Tryd.func64, Tryd.ntmps64
  go_wp2_with fail
  go_ret2
  exact StackPost.mk rfl rfl ((Below.refl _ _).alloc (Nat.le_refl _) _)
set_option maxHeartbeats 1000000 in
theorem st_30 (a b : Int) (w : World) : Calls Tryd.prog 64 #[.agg #[.int .i64 30, .int .i64 a, .int .i64 b]] w fun e w' => StackPost ⟨30, a, b⟩ w e w' := by
  go_enter Tryd.func64, Tryd.ntmps64
  go_wp2_with fail
  go_ret2
  exact StackPost.mk rfl rfl ((Below.refl _ _).alloc (Nat.le_refl _) _)
set_option maxHeartbeats 1000000 in
theorem st_31 (a b : Int) (w : World) : Calls Tryd.prog 64 #[.agg #[.int .i64 31, .int .i64 a, .int .i64 b]] w fun e w' => StackPost ⟨31, a, b⟩ w e w' := by
  go_enter Tryd.func64, Tryd.ntmps64
  go_wp2_with fail
  go_ret2
  exact StackPost.mk rfl rfl ((Below.refl _ _).alloc (Nat.le_refl _) _)
set_option maxHeartbeats 1000000 in
theorem st_32 (a b : Int) (w : World) : Calls Tryd.prog 64 #[.agg #[.int .i64 32, .int .i64 a, .int .i64 b]] w fun e w' => StackPost ⟨32, a, b⟩ w e w' := by
  go_enter Tryd.func64, Tryd.ntmps64
  go_wp2_with fail
  go_ret2
  exact StackPost.mk rfl rfl ((Below.refl _ _).alloc (Nat.le_refl _) _)
set_option maxHeartbeats 1000000 in
theorem st_33 (a b : Int) (w : World) : Calls Tryd.prog 64 #[.agg #[.int .i64 33, .int .i64 a, .int .i64 b]] w fun e w' => StackPost ⟨33, a, b⟩ w e w' := by
  go_enter Tryd.func64, Tryd.ntmps64
  go_wp2_with fail
  go_ret2
  exact StackPost.mk rfl rfl ((Below.refl _ _).alloc (Nat.le_refl _) _)
set_option maxHeartbeats 1000000 in
theorem st_34 (a b : Int) (w : World) (h1 : 0 ≤ b) (h2 : b ≤ 50) : Calls Tryd.prog 64 #[.agg #[.int .i64 34, .int .i64 a, .int .i64 b]] w fun e w' => StackPost ⟨34, a, b⟩ w e w' := by
  go_enter Tryd.func64, Tryd.ntmps64
  go_wp2_with fail
  go_ret2
  exact StackPost.mk rfl rfl ((Below.refl _ _).alloc (Nat.le_refl _) _)
set_option maxHeartbeats 1000000 in
theorem st_35 (a b : Int) (w : World) (h1 : 0 ≤ b) : Calls Tryd.prog 64 #[.agg #[.int .i64 35, .int .i64 a, .int .i64 b]] w fun e w' => StackPost ⟨35, a, b⟩ w e w' := by
  obtain ⟨h3, h4⟩ := tmod64 h1
  go_enter Tryd.func64, Tryd.ntmps64
  go_wp2_with fail
  go_ret2
  exact StackPost.mk (show b % 64 + 1 = b.tmod 64 + 1 by rw [Int.tmod_eq_emod_of_nonneg h1]) rfl ((Below.refl _ _).alloc (Nat.le_refl _) _)
set_option maxHeartbeats 1000000 in
theorem st_36 (a b : Int) (w : World) : Calls Tryd.prog 64 #[.agg #[.int .i64 36, .int .i64 a, .int .i64 b]] w fun e w' => StackPost ⟨36, a, b⟩ w e w' := by
  go_enter Tryd.func64, Tryd.ntmps64
  go_wp2_with fail
  go_ret2
  exact StackPost.mk rfl rfl ((Below.refl _ _).alloc (Nat.le_refl _) _)
set_option maxHeartbeats 1000000 in
theorem st_37 (a b : Int) (w : World) (h1 : 0 ≤ b) (h2 : b ≤ 50) : Calls Tryd.prog 64 #[.agg #[.int .i64 37, .int .i64 a, .int .i64 b]] w fun e w' => StackPost ⟨37, a, b⟩ w e w' := by
  go_enter Tryd.func64, Tryd.ntmps64
  go_wp2_with fail
  go_ret2
  exact StackPost.mk rfl rfl ((Below.refl _ _).alloc (Nat.le_refl _) _)
set_option maxHeartbeats 1000000 in
theorem st_38 (a b : Int) (w : World) : Calls Tryd.prog 64 #[.agg #[.int .i64 38, .int .i64 a, .int .i64 b]] w fun e w' => StackPost ⟨38, a, b⟩ w e w' := by
  go_enter Tryd.func64, Tryd.ntmps64
  go_wp2_with fail
  go_ret2
  exact StackPost.mk rfl rfl ((Below.refl _ _).alloc (Nat.le_refl _) _)
set_option maxHeartbeats 1000000 in
theorem st_39 (a b : Int) (w : World) : Calls Tryd.prog 64 #[.agg #[.int .i64 39, .int .i64 a, .int .i64 b]] w fun e w' => StackPost ⟨39, a, b⟩ w e w' := by
  go_enter Tryd.func64, Tryd.ntmps64
  go_wp2_with fail
  go_ret2
  exact StackPost.mk rfl rfl ((Below.refl _ _).alloc (Nat.le_refl _) _)
set_option maxHeartbeats 1000000 in
theorem st_40 (a b : Int) (w : World) : Calls Tryd.prog 64 #[.agg #[.int .i64 40, .int .i64 a, .int .i64 b]] w fun e w' => StackPost ⟨40, a, b⟩ w e w' := by
  go_enter Tryd.func64, Tryd.ntmps64
  go_wp2_with fail
  go_ret2
  exact StackPost.mk rfl rfl ((Below.refl _ _).alloc (Nat.le_refl _) _)
set_option maxHeartbeats 1000000 in
theorem st_41 (a b : Int) (w : World) : Calls Tryd.prog 64 #[.agg #[.int .i64 41, .int .i64 a, .int .i64 b]] w fun e w' => StackPost ⟨41, a, b⟩ w e w' := by
  go_enter Tryd.func64, Tryd.ntmps64
  go_wp2_with fail
  go_ret2
  exact StackPost.mk rfl rfl ((Below.refl _ _).alloc (Nat.le_refl _) _)
set_option maxHeartbeats 1000000 in
theorem st_42 (a b : Int) (w : World) : Calls Tryd.prog 64 #[.agg #[.int .i64 42, .int .i64 a, .int .i64 b]] w fun e w' => StackPost ⟨42, a, b⟩ w e w' := by
  go_enter Tryd.func64, Tryd.ntmps64
  go_wp2_with fail
  go_ret2
  exact StackPost.mk rfl rfl ((Below.refl _ _).alloc (Nat.le_refl _) _)
set_option maxHeartbeats 1000000 in
theorem st_43 (a b : Int) (w : World) : Calls Tryd.prog 64 #[.agg #[.int .i64 43, .int .i64 a, .int .i64 b]] w fun e w' => StackPost ⟨43, a, b⟩ w e w' := by
  go_enter Tryd.func64, Tryd.ntmps64
  go_wp2_with fail
  go_ret2
  exact StackPost.mk rfl rfl ((Below.refl _ _).alloc (Nat.le_refl _) _)
set_option maxHeartbeats 1000000 in
theorem st_44 (a b : Int) (w : World) : Calls Tryd.prog 64 #[.agg #[.int .i64 44, .int .i64 a, .int .i64 b]] w fun e w' => StackPost ⟨44, a, b⟩ w e w' := by
  go_enter Tryd.func64, Tryd.ntmps64
  go_wp2_with fail
  go_ret2
  exact StackPost.mk rfl rfl ((Below.refl _ _).alloc (Nat.le_refl _) _)
set_option maxHeartbeats 1000000 in
theorem st_45 (a b : Int) (w : World) : Calls Tryd.prog 64 #[.agg #[.int .i64 45, .int .i64 a, .int .i64 b]] w fun e w' => StackPost ⟨45, a, b⟩ w e w' := by
  go_enter Tryd.func64, Tryd.ntmps64
  go_wp2_with fail
  go_ret2
  exact StackPost.mk rfl rfl ((Below.refl _ _).alloc (Nat.le_refl _) _)

theorem stack_any {m : PM} {s : Int} {n : Nat} (i : PI) (h : nameOk m s n i = true) (w : World) : Calls Tryd.prog 64 #[.agg #[.int .i64 i.op, .int .i64 i.a, .int .i64 i.b]] w fun e w' => StackPost i w e w' := by
  obtain ⟨h1, h2⟩ := nameOk_op h
  obtain ⟨op, a, b⟩ := i
  rcases op_cases op h1 h2 with rfl|rfl|rfl|rfl|rfl|rfl|rfl|rfl|rfl|rfl|rfl|rfl|rfl|rfl|rfl|rfl|rfl|rfl|rfl|rfl|rfl|rfl|rfl|rfl|rfl|rfl|rfl|rfl|rfl|rfl|rfl|rfl|rfl|rfl|rfl|rfl|rfl|rfl|rfl|rfl|rfl|rfl|rfl|rfl|rfl
  · exact st_1 a b w
  · exact st_2 a b w
  · exact st_3 a b w
  · exact st_4 a b w
  · exact st_5 a b w
  · exact st_6 a b w
  · exact st_7 a b w
  · exact st_8 a b w
  · exact st_9 a b w
  · exact st_10 a b w
  · exact st_11 a b w
  · exact st_12 a b w
  · exact st_13 a b w
  · exact st_14 a b w
  · exact st_15 a b w
  · exact st_16 a b w
  · exact st_17 a b w
  · exact st_18 a b w
  · exact st_19 a b w
  · exact st_20 a b w
  · exact st_21 a b w
  · exact st_22 a b w
  · exact st_23 a b w
  · exact st_24 a b w
  · exact st_25 a b w
  · exact st_26 a b w
  · exact st_27 a b w
  · exact st_28 a b w
  · exact st_29 a b w
  · exact st_30 a b w
  · exact st_31 a b w
  · exact st_32 a b w
  · exact st_33 a b w
  · exact st_34 a b w (nameOk_34 h).1 (nameOk_34 h).2
  · exact st_35 a b w (nameOk_35 h)
  · exact st_36 a b w
  · exact st_37 a b w (nameOk_37 h).1 (nameOk_37 h).2
  · exact st_38 a b w
  · exact st_39 a b w
  · exact st_40 a b w
  · exact st_41 a b w
  · exact st_42 a b w
  · exact st_43 a b w
  · exact st_44 a b w
  · exact st_45 a b w
end Go.Proofs.YtpfhnmgfcmkidaaDoor
