/-
  What is not there is told as the document tells: the law.
-/
import Derived.Test.YtkmeahgnijeheaaDoorHSet
namespace Go.Proofs.YtkmeahgnijeheaaDoor
open Go.RowKit

theorem eqZero (w : World) : (binOp BinOp.eql 28 (.agg #[.int .i64 0, .int .i64 0, .string ⟨#[]⟩]) (.agg #[.int .i64 0, .int .i64 0, .string ⟨#[]⟩])).run Tryd.prog w = .ok (.bool true) w := by kernel_rfl

set_option maxRecDepth 100000 in
set_option maxHeartbeats 8000000 in
theorem heapErrors_any {w : World} (a i : Int) (hT : ErrT w) :
    Calls Tryd.prog 3 #[.int .i64 a, .int .i64 i] w fun e w' => e = .returned (.bool true) ∧ Below w.heap.size w w' := by
  have HT := hide hT
  have q0 := neqNil0
  have q1 := eqlNil0
  have qz := eqZero
  clear hT
  go_enter Tryd.func3, Tryd.ntmps3
  go_wp2_with fail
  refine (new_any w).mono ?_
  rintro e w1 ⟨h, mb, rfl, hb1, k1, m1, l1, l2, l3⟩
  have HB1 := hide hb1
  have K1 := hide k1
  have M1 := hide m1
  clear hb1 k1 m1
  go_wp2_with fail
  refine (get_missing (unhide K1) (num_empty (unhide K1) a)).mono ?_
  rintro e w2 ⟨rfl, hb2⟩
  have HB2 : Hid (∀ o, Below w1.heap.size w1 (w2.alloc o)) := fun o => hb2.alloc hb2.size o
  clear hb2
  go_wp2_with fail
  refine (set_missing ((unhide K1).keep (unhide HB2 _))).mono ?_
  rintro e w3 ⟨rfl, hb3⟩
  have HB3 := hide ((unhide HB2 _).trans (hb3.mono (unhide HB2 _).size))
  clear hb3
  go_wp2_with fail
  refine (alloc_first (B := w.heap.size) ((unhide K1).keep (unhide HB3)) ((unhide M1).keep ((unhide HB3).block mb (unhide M1).lt)) l1 l2 l3).mono ?_
  rintro e w4 ⟨rfl, hb4, og, co, fg, cf, k4, o4, n4, l4⟩
  have HB4 := hide (((unhide HB1).trans ((unhide HB3).mono (unhide HB1).size)).trans hb4)
  have K4 := hide k4
  have O4 := hide o4
  clear hb4 k4 o4
  go_wp2_with fail
  refine (set_first (B := w.heap.size) (unhide K4) (unhide O4) n4 l4).mono ?_
  rintro e w5 ⟨rfl, hb5, k5, o5⟩
  have HB5 := hide ((unhide HB4).trans hb5)
  have K5 := hide k5
  have O5 := hide o5
  clear hb5 k5 o5
  go_wp2_with fail
  refine (set_bad (unhide K5) (unhide O5)).mono ?_
  rintro e w6 ⟨rfl, hb6⟩
  have HB6 := hide hb6
  clear hb6
  go_wp2_with fail
  refine (get_first1 ((unhide K5).keep (unhide HB6)) ((unhide O5).keep (unhide HB6))).mono ?_
  rintro e w7 ⟨rfl, hb7⟩
  have HB7 := hide ((unhide HB6).trans (hb7.mono (unhide HB6).size))
  have HB8 : Hid (Below w5.heap.size w5 (w7.alloc (.cells #[.int .i64 0, .int .i64 0, .string ⟨#[]⟩] 28))) := (unhide HB7).alloc (unhide HB7).size _
  have HV8 := hide (hnew w7 (.cells #[.int .i64 0, .int .i64 0, .string ⟨#[]⟩] 28))
  have h77 : (((7 : Int) == 7) && ((-1 : Int) == -1)) = true := by decide
  clear hb7
  go_wp2_with fail
  refine (lawBare_any (n := 7) (p := -1) (Or.inr (Or.inl ⟨rfl, rfl⟩)) ((unhide HT).keep ((unhide HB5).trans ((unhide HB8).mono (unhide HB5).size))) 7).mono ?_
  rintro e w9 ⟨rfl, hb9⟩
  rw [h77]
  have HB9 := hide ((unhide HB8).trans (hb9.mono (unhide HB8).size))
  have HV9 := hide ((hb9.block w7.heap.size (hlt (unhide HV8))).trans (unhide HV8))
  clear hb9
  go_wp2_with fail
  refine (lawBare_any (n := 7) (p := -1) (Or.inr (Or.inl ⟨rfl, rfl⟩)) ((unhide HT).keep ((unhide HB5).trans ((unhide HB9).mono (unhide HB5).size))) 7).mono ?_
  rintro e w10 ⟨rfl, hb10⟩
  rw [h77]
  have HB10 := hide ((unhide HB9).trans (hb10.mono (unhide HB9).size))
  have HV10 := hide ((hb10.block w7.heap.size (hlt (unhide HV9))).trans (unhide HV9))
  clear hb10
  go_wp2_with fail
  refine (lawBare_any (n := 7) (p := -1) (Or.inr (Or.inl ⟨rfl, rfl⟩)) ((unhide HT).keep ((unhide HB5).trans ((unhide HB10).mono (unhide HB5).size))) 7).mono ?_
  rintro e w11 ⟨rfl, hb11⟩
  rw [h77]
  have HB11 := hide ((unhide HB10).trans (hb11.mono (unhide HB10).size))
  have HV11 := hide ((hb11.block w7.heap.size (hlt (unhide HV10))).trans (unhide HV10))
  clear hb11
  have v0 : w11.cell? ⟨w7.heap.size, 0, none⟩ = some (.int .i64 0) := hcell (unhide HV11) 0
  have v1 : w11.cell? ⟨w7.heap.size, 1, none⟩ = some (.int .i64 0) := hcell (unhide HV11) 1
  have v2 : w11.cell? ⟨w7.heap.size, 2, none⟩ = some (.string ⟨#[]⟩) := hcell (unhide HV11) 2
  go_wp2_with fail
  refine (kind_first ((unhide K5).keep (unhide HB11)) ((unhide O5).keep (unhide HB11))).mono ?_
  rintro e w12 ⟨rfl, hb12⟩
  have HB12 := hide ((unhide HB11).trans (hb12.mono (unhide HB11).size))
  clear hb12
  go_wp2_with fail
  refine (tag_first ((unhide K5).keep (unhide HB12)) ((unhide O5).keep (unhide HB12))).mono ?_
  rintro e w13 ⟨rfl, hb13⟩
  have HB13 := hide ((unhide HB12).trans (hb13.mono (unhide HB12).size))
  clear hb13
  go_wp2_with fail
  refine (id_first ((unhide K5).keep (unhide HB13)) ((unhide O5).keep (unhide HB13))).mono ?_
  rintro e w14 ⟨rfl, hb14⟩
  have HB14 := hide ((unhide HB13).trans (hb14.mono (unhide HB13).size))
  clear hb14
  go_wp2_with fail
  go_ret
  exact ⟨rfl, (unhide HB5).trans ((unhide HB14).mono (unhide HB5).size)⟩
end Go.Proofs.YtkmeahgnijeheaaDoor
