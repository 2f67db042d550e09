/-
  Is there what an instruction names? (all)
-/
import Derived.Test.YtpfhnmgfcmkidaaDoorCNames2
import Derived.Test.YtpfhnmgfcmkidaaDoorCNames3
namespace Go.Proofs.YtpfhnmgfcmkidaaDoor
open Go.RowKit

theorem namesOf_out {op : Int} (h : ¬ (1 ≤ op ∧ op ≤ 45)) : namesOf op = 12 := by
  unfold namesOf
  repeat (first | rw [if_neg (by omega)] | rfl)
theorem nameOk_out {m : PM} {s : Int} {n : Nat} {i : PI} (h : ¬ (1 ≤ i.op ∧ i.op ≤ 45)) : nameOk m s n i = false := by
  unfold nameOk
  rw [namesOf_out h]
  rfl

set_option maxHeartbeats 2000000 in
theorem nm_out {w : World} {b : Nat} {fb fo : Nat} {m : PM} {f : PF} (op x y : Int) (h : ¬ (1 ≤ op ∧ op ≤ 45)) :
    Calls Tryd.prog 42 #[.pointer (some ⟨b, 0, none⟩), .pointer (some ⟨fb, fo, none⟩), .agg #[.int .i64 op, .int .i64 x, .int .i64 y]] w fun e w' => NmPost m f ⟨op, x, y⟩ w e w' := by
  have HD := hide (nameOk_out (m := m) (s := f.slots) (n := f.code.length) (i := ⟨op, x, y⟩) h)
  have e2 : (op == 2) = false := beq_eq_false_iff_ne.2 (by omega)
  have e6 : (op == 6) = false := beq_eq_false_iff_ne.2 (by omega)
  have e9 : (op == 9) = false := beq_eq_false_iff_ne.2 (by omega)
  have e7 : (op == 7) = false := beq_eq_false_iff_ne.2 (by omega)
  have e8 : (op == 8) = false := beq_eq_false_iff_ne.2 (by omega)
  have e10 : (op == 10) = false := beq_eq_false_iff_ne.2 (by omega)
  have e11 : (op == 11) = false := beq_eq_false_iff_ne.2 (by omega)
  have e12 : (op == 12) = false := beq_eq_false_iff_ne.2 (by omega)
  have e13 : (op == 13) = false := beq_eq_false_iff_ne.2 (by omega)
  have e29 : (op == 29) = false := beq_eq_false_iff_ne.2 (by omega)
  have e15 : (op == 15) = false := beq_eq_false_iff_ne.2 (by omega)
  have e16 : (op == 16) = false := beq_eq_false_iff_ne.2 (by omega)
  have e17 : (op == 17) = false := beq_eq_false_iff_ne.2 (by omega)
  have e18 : (op == 18) = false := beq_eq_false_iff_ne.2 (by omega)
  have e32 : (op == 32) = false := beq_eq_false_iff_ne.2 (by omega)
  have e33 : (op == 33) = false := beq_eq_false_iff_ne.2 (by omega)
  have e34 : (op == 34) = false := beq_eq_false_iff_ne.2 (by omega)
  have e35 : (op == 35) = false := beq_eq_false_iff_ne.2 (by omega)
  have e36 : (op == 36) = false := beq_eq_false_iff_ne.2 (by omega)
  have e37 : (op == 37) = false := beq_eq_false_iff_ne.2 (by omega)
  have e38 : (op == 38) = false := beq_eq_false_iff_ne.2 (by omega)
  have e39 : (op == 39) = false := beq_eq_false_iff_ne.2 (by omega)
  by_cases h1 : 1 ≤ op
  · have h2 : ¬ op ≤ 45 := by omega
    have d2 : decide (op ≤ 45) = false := by simpa using h2
    clear h h2
    go_enter Tryd.func42, Tryd.ntmps42
    go_wp2_with fail
    go_ret
    exact NmPost.mk (by rw [unhide HD]) ((Below.refl _ _).alloc (Nat.le_refl _) _)
  · have d1 : decide (1 ≤ op) = false := by simpa using h1
    clear h h1
    go_enter Tryd.func42, Tryd.ntmps42
    go_wp2_with fail
    go_ret
    exact NmPost.mk (by rw [unhide HD]) ((Below.refl _ _).alloc (Nat.le_refl _) _)

theorem names_any {w : World} {b : Nat} {m : PM} {vf vc vk : Value} (h : ImgAt w b m vf vc vk) {fb fo : Nat} {C : Nat → Value} {f : PF} (hf : FnAt w fb fo C f) (i : PI) (hy : i.b ≤ 9223372036854775807) :
    Calls Tryd.prog 42 #[.pointer (some ⟨b, 0, none⟩), .pointer (some ⟨fb, fo, none⟩), .agg #[.int .i64 i.op, .int .i64 i.a, .int .i64 i.b]] w fun e w' => NmPost m f i w e w' := by
  obtain ⟨op, x, y⟩ := i
  rcases Decidable.em (1 ≤ op ∧ op ≤ 45) with k | k
  · rcases op_cases op k.1 k.2 with rfl|rfl|rfl|rfl|rfl|rfl|rfl|rfl|rfl|rfl|rfl|rfl|rfl|rfl|rfl|rfl|rfl|rfl|rfl|rfl|rfl|rfl|rfl|rfl|rfl|rfl|rfl|rfl|rfl|rfl|rfl|rfl|rfl|rfl|rfl|rfl|rfl|rfl|rfl|rfl|rfl|rfl|rfl|rfl|rfl
    · exact nm_1 h hf x y
    · exact nm_2 h hf x y
    · exact nm_3 h hf x y
    · exact nm_4 h hf x y
    · exact nm_5 h hf x y
    · exact nm_6 h hf x y
    · exact nm_7 h hf x y
    · exact nm_8 h hf x y
    · exact nm_9 h hf x y
    · exact nm_10 h hf x y
    · exact nm_11 h hf x y
    · exact nm_12 h hf x y
    · exact nm_13 h hf x y
    · exact nm_14 h hf x y
    · exact nm_15 h hf x y
    · exact nm_16 h hf x y
    · exact nm_17 h hf x y
    · exact nm_18 h hf x y
    · exact nm_19 h hf x y
    · exact nm_20 h hf x y
    · exact nm_21 h hf x y
    · exact nm_22 h hf x y
    · exact nm_23 h hf x y
    · exact nm_24 h hf x y
    · exact nm_25 h hf x y
    · exact nm_26 h hf x y
    · exact nm_27 h hf x y
    · exact nm_28 h hf x y
    · exact nm_29 h hf x y
    · exact nm_30 h hf x y
    · exact nm_31 h hf x y
    · exact nm_32 h hf x y
    · exact nm_33 h hf x y
    · exact nm_34 h hf x y
    · exact nm_35 h hf x y hy
    · exact nm_36 h hf x y
    · exact nm_37 h hf x y
    · exact nm_38 h hf x y
    · exact nm_39 h hf x y
    · exact nm_40 h hf x y
    · exact nm_41 h hf x y
    · exact nm_42 h hf x y
    · exact nm_43 h hf x y
    · exact nm_44 h hf x y
    · exact nm_45 h hf x y
  · exact nm_out op x y k
end Go.Proofs.YtpfhnmgfcmkidaaDoor
