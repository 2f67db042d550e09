/-
  The first object of a heap.
-/
import Derived.Test.YtkmeahgnijeheaaDoorHAdd
namespace Go.Proofs.YtkmeahgnijeheaaDoor
open Go.RowKit

theorem makeTwo (w : World) : (Go.Instr.makeSlice 39 (.int .i64 2) (.int .i64 2)).run Tryd.prog w = .ok (.slice (some ⟨w.heap.size, 0, none⟩) 2 2) (w.alloc (.cells #[.int .i64 0, .int .i64 0, .string ⟨#[]⟩, .int .i64 0, .int .i64 0, .string ⟨#[]⟩] 28)) := by kernel_rfl
theorem Ob.turn {w w' : World} {og co fg cf : Nat} {x0 x1 : Int} (k : Ob w og co fg cf x0 x1) (h1 : w'.heap[og]? = w.heap[og]?) (h2 : w'.heap[fg]? = w.heap[fg]?) : Ob w' og co fg cf x0 x1 := by
  obtain ⟨⟨c, a1, a2⟩, ⟨d, b1, b2⟩, h5, h6, h7⟩ := k
  exact ⟨⟨c, h1.trans a1, a2⟩, ⟨d, h2.trans b1, b2⟩, h5, h6, h7⟩
def AllocPost (B : Nat) (w : World) (h mb : Nat) (e : Ending) (w' : World) : Prop := e = .returned (.tuple #[.int .i64 1, .nilIface]) ∧ Below B w w' ∧ ∃ og co fg cf, Hp w' h mb (sv og co 1) (sv fg cf 2) 1 ∧ Ob w' og co fg cf 0 0 ∧ fg ≠ h ∧ B ≤ fg

set_option maxRecDepth 100000 in
set_option maxHeartbeats 4000000 in
theorem alloc_first {B : Nat} {w : World} {h mb : Nat} (k : Hp w h mb (.slice none 0 0) (.slice none 0 0) 0) (hm : MapIs w mb 0) (h1 : B ≤ h) (h2 : B ≤ mb) (h3 : h ≠ mb) :
    Calls Tryd.prog 7 #[.pointer (some ⟨h, 0, none⟩), .int .i64 2, .int .i64 7, .int .i64 2] w fun e w' => AllocPost B w h mb e w' := by
  have K := hide k
  have HM := hide hm
  have hB : B ≤ w.heap.size := Nat.le_trans h1 (Nat.le_of_lt (hlt k.blk))
  clear k hm
  go_enter Tryd.func7, Tryd.ntmps7
  go_wp2_with fail
  have KD := hide ((unhide K).keep (Below.drew (Below.refl _ _)))
  refine wp_region_held_drew (S := fun w' => w'.cell? ⟨h, 6, none⟩ = some (.int .i64 10)) (by kernel_rfl) (hcell (unhide KD).blk 6) (fun hHeld => ?_)
  refine wpAnyH_take (i := 0) (oi := { dst := some 27, op := _, type := _, pos := _, after := _, guard := _ }) (v := ?_) rfl (by kernel_rfl) (by kernel_rfl) (by kernel_rfl) (fun _ _ _ h => h) (Or.inl ⟨by rfl, ?_⟩) (by assumption) ?_
  case refine_2 =>
    intro w hSw
    try dsimp only at hSw
    go_simp
    try with_reducible rfl
  simp only [Act.put, List.setIfInBounds_toArray, List.set_cons_zero, List.set_cons_succ]
  refine wpAnyH_take (i := 1) (oi := { dst := some 28, op := _, type := _, pos := _, after := _, guard := _ }) (v := ?_) rfl (by kernel_rfl) (by kernel_rfl) (by kernel_rfl) (fun _ _ _ h => h) (Or.inl ⟨by rfl, ?_⟩) (by assumption) ?_
  case refine_2 =>
    intro w hSw
    try dsimp only at hSw
    go_simp
    try with_reducible rfl
  simp only [Act.put, List.setIfInBounds_toArray, List.set_cons_zero, List.set_cons_succ]
  refine wpAnyH_take (i := 2) (oi := { dst := some 29, op := _, type := _, pos := _, after := _, guard := _ }) (v := ?_) rfl (by kernel_rfl) (by kernel_rfl) (by kernel_rfl) (fun _ _ _ h => h) (Or.inl ⟨by rfl, ?_⟩) (by assumption) ?_
  case refine_2 =>
    intro w hSw
    try dsimp only at hSw
    go_simp
    try with_reducible rfl
  simp only [Act.put, List.setIfInBounds_toArray, List.set_cons_zero, List.set_cons_succ]
  refine wpAnyH_take (i := 3) (oi := { dst := some 30, op := _, type := _, pos := _, after := _, guard := _ }) (v := ?_) rfl (by kernel_rfl) (by kernel_rfl) (by kernel_rfl) (fun _ _ _ h => h) (Or.inl ⟨by rfl, ?_⟩) (by assumption) ?_
  case refine_2 =>
    intro w hSw
    try dsimp only at hSw
    go_simp
    try with_reducible rfl
  simp only [Act.put, List.setIfInBounds_toArray, List.set_cons_zero, List.set_cons_succ]
  refine wpAnyH_take (i := 4) (oi := { dst := some 31, op := _, type := _, pos := _, after := _, guard := _ }) (v := ?_) rfl (by kernel_rfl) (by kernel_rfl) (by kernel_rfl) (fun _ _ _ h => h) (Or.inl ⟨by rfl, ?_⟩) (by assumption) ?_
  case refine_2 =>
    intro w hSw
    try dsimp only at hSw
    go_simp
    try with_reducible rfl
  simp only [Act.put, List.setIfInBounds_toArray, List.set_cons_zero, List.set_cons_succ]
  refine wpAnyH_take (i := 5) (oi := { dst := some 32, op := _, type := _, pos := _, after := _, guard := _ }) (v := ?_) rfl (by kernel_rfl) (by kernel_rfl) (by kernel_rfl) (fun _ _ _ h => h) (Or.inl ⟨by rfl, ?_⟩) (by assumption) ?_
  case refine_2 =>
    intro w hSw
    try dsimp only at hSw
    go_simp
    try with_reducible rfl
  simp only [Act.put, List.setIfInBounds_toArray, List.set_cons_zero, List.set_cons_succ]
  refine wpAnyH_take (i := 8) (oi := { dst := some 35, op := _, type := _, pos := _, after := _, guard := _ }) (v := ?_) rfl (by kernel_rfl) (by kernel_rfl) (by kernel_rfl) (fun _ _ _ h => h) (Or.inl ⟨by rfl, ?_⟩) (by assumption) ?_
  case refine_2 =>
    intro w hSw
    try dsimp only at hSw
    go_simp
    try with_reducible rfl
  simp only [Act.put, List.setIfInBounds_toArray, List.set_cons_zero, List.set_cons_succ]
  refine wpAnyH_take (i := 10) (oi := { dst := some 37, op := _, type := _, pos := _, after := _, guard := _ }) (v := ?_) rfl (by kernel_rfl) (by kernel_rfl) (by kernel_rfl) (fun _ _ _ h => h) (Or.inl ⟨by rfl, ?_⟩) (by assumption) ?_
  case refine_2 =>
    intro w hSw
    try dsimp only at hSw
    go_simp
    try with_reducible rfl
  simp only [Act.put, List.setIfInBounds_toArray, List.set_cons_zero, List.set_cons_succ]
  refine wpAnyH_take (i := 11) (oi := { dst := some 38, op := _, type := _, pos := _, after := _, guard := _ }) (v := ?_) rfl (by kernel_rfl) (by kernel_rfl) (by kernel_rfl) (fun _ _ _ h => h) (Or.inl ⟨by rfl, ?_⟩) (by assumption) ?_
  case refine_2 =>
    intro w hSw
    try dsimp only at hSw
    go_simp
    try with_reducible rfl
  simp only [Act.put, List.setIfInBounds_toArray, List.set_cons_zero, List.set_cons_succ]
  refine wpAnyH_take (i := 12) (oi := { dst := some 39, op := _, type := _, pos := _, after := _, guard := _ }) (v := ?_) rfl (by kernel_rfl) (by kernel_rfl) (by kernel_rfl) (fun _ _ _ h => h) (Or.inl ⟨by rfl, ?_⟩) (by assumption) ?_
  case refine_2 =>
    intro w hSw
    try dsimp only at hSw
    go_simp
    try with_reducible rfl
  simp only [Act.put, List.setIfInBounds_toArray, List.set_cons_zero, List.set_cons_succ]
  refine wpAnyH_take (i := 13) (oi := { dst := some 40, op := _, type := _, pos := _, after := _, guard := _ }) (v := ?_) rfl (by kernel_rfl) (by kernel_rfl) (by kernel_rfl) (fun _ _ _ h => h) (Or.inl ⟨by rfl, ?_⟩) (by assumption) ?_
  case refine_2 =>
    intro w hSw
    try dsimp only at hSw
    go_simp
    try with_reducible rfl
  simp only [Act.put, List.setIfInBounds_toArray, List.set_cons_zero, List.set_cons_succ]
  refine wpAnyH_ready (rs := [6]) (by kernel_rfl) (by simp) ?_
  refine AllReadyH.cons (o := { dst := some 33, op := _, type := _, pos := _, after := _, guard := _ }) rfl (fun K hK => ?_) AllReadyH.nil
  go_simp
  refine (cells_empty (unhide KD)).mono ?_
  rintro e w1 ⟨rfl, hb1⟩
  have K1 := hide ((unhide KD).keep hb1)
  have HB1 := hide ((Below.drew (Below.refl w.heap.size w)).trans hb1)
  clear hb1
  refine hK.out _ _ (hcell (unhide K1).blk 6) (fun hHeld1 => ?_)
  clear hK K
  refine wpAnyH_take (i := 7) (oi := { dst := some 34, op := _, type := _, pos := _, after := _, guard := _ }) (v := ?_) rfl (by kernel_rfl) (by kernel_rfl) (by kernel_rfl) (fun _ _ _ h => h) (Or.inl ⟨by rfl, ?_⟩) (by assumption) ?_
  case refine_2 =>
    intro w hSw
    try dsimp only at hSw
    go_simp
    try with_reducible rfl
  simp only [Act.put, List.setIfInBounds_toArray, List.set_cons_zero, List.set_cons_succ]
  refine wpAnyH_take (i := 9) (oi := { dst := some 36, op := _, type := _, pos := _, after := _, guard := _ }) (v := ?_) rfl (by kernel_rfl) (by kernel_rfl) (by kernel_rfl) (fun _ _ _ h => h) (Or.inl ⟨by rfl, ?_⟩) (by assumption) ?_
  case refine_2 =>
    intro w hSw
    try dsimp only at hSw
    go_simp
    try with_reducible rfl
  simp only [Act.put, List.setIfInBounds_toArray, List.set_cons_zero, List.set_cons_succ]
  refine wpAnyH_take (i := 14) (oi := { dst := some 41, op := _, type := _, pos := _, after := _, guard := _ }) (v := ?_) rfl (by kernel_rfl) (by kernel_rfl) (by kernel_rfl) (fun _ _ _ h => h) (Or.inl ⟨by rfl, ?_⟩) (by assumption) ?_
  case refine_2 =>
    intro w hSw
    try dsimp only at hSw
    go_simp
    try with_reducible rfl
  simp only [Act.put, List.setIfInBounds_toArray, List.set_cons_zero, List.set_cons_succ]
  refine wpAnyH_take (i := 15) (oi := { dst := some 42, op := _, type := _, pos := _, after := _, guard := _ }) (v := ?_) rfl (by kernel_rfl) (by kernel_rfl) (by kernel_rfl) (fun _ _ _ h => h) (Or.inl ⟨by rfl, ?_⟩) (by assumption) ?_
  case refine_2 =>
    intro w hSw
    try dsimp only at hSw
    go_simp
    try with_reducible rfl
  simp only [Act.put, List.setIfInBounds_toArray, List.set_cons_zero, List.set_cons_succ]
  refine wpAnyH_done (by kernel_rfl) ?_ _
  have e6 : w1.cell? ⟨h, 10, none⟩ = some (.int .i64 0) := hcell (unhide K1).blk 10
  have f6 := hfroz (unhide K1).blk 10
  have hh1 := hlt (unhide K1).blk
  go_wp2_with fail
  have hs : (w1.setCell ⟨h, 10, none⟩ (.int .i64 1)).heap.size = w1.heap.size := by simp [World.setCell]
  have hmb : mb < w1.heap.size := Nat.lt_of_lt_of_le (unhide HM).lt (unhide HB1).size
  have K2 := hide (show Hp ((w1.setCell ⟨h, 10, none⟩ (.int .i64 1)).alloc (.cells #[.int .i64 2, .int .i64 7, .int .i64 1, .int .i64 0, .int .i64 2, .bool false] 53)) h mb (.slice none 0 0) (.slice none 0 0) 1 from ⟨(Below.heap_alloc _ _ _ (by rw [hs]; exact hh1)).trans (hset (unhide K1).blk 10 (.int .i64 1))⟩)
  have HM2 := hide ((unhide HM).keep (show ((w1.setCell ⟨h, 10, none⟩ (.int .i64 1)).alloc (.cells #[.int .i64 2, .int .i64 7, .int .i64 1, .int .i64 0, .int .i64 2, .bool false] 53)).heap[mb]? = w.heap[mb]? from (Below.heap_alloc _ _ _ (by rw [hs]; exact hmb)).trans ((hother _ (Ne.symm h3)).trans ((unhide HB1).block mb (unhide HM).lt))))
  have HO2 := hide (hnew' (w1.setCell ⟨h, 10, none⟩ (.int .i64 1)) (.cells #[.int .i64 2, .int .i64 7, .int .i64 1, .int .i64 0, .int .i64 2, .bool false] 53) hs)
  have HF2 : Hid (Fr h w ((w1.setCell ⟨h, 10, none⟩ (.int .i64 1)).alloc (.cells #[.int .i64 2, .int .i64 7, .int .i64 1, .int .i64 0, .int .i64 2, .bool false] 53))) := (Fr.of_below (unhide HB1)).trans ((Fr.set _ _ _).trans (Fr.of_below ((Below.refl _ _).alloc (Nat.le_refl _) _)))
  generalize (w1.setCell ⟨h, 10, none⟩ (.int .i64 1)).alloc (.cells #[.int .i64 2, .int .i64 7, .int .i64 1, .int .i64 0, .int .i64 2, .bool false] 53) = W at *
  have hnh : w1.heap.size ≠ h ∧ w1.heap.size ≠ mb := by omega
  clear e6 f6 hs
  have HO3 := hide (show W.drew.heap[w1.heap.size]? = _ from unhide HO2)
  refine wp_region_held_drew (S := (fun w' => w'.cell? ⟨w1.heap.size, 0, none⟩ = some (.int .i64 2) ∧ w'.cell? ⟨w1.heap.size, 1, none⟩ = some (.int .i64 7) ∧ w'.cell? ⟨w1.heap.size, 2, none⟩ = some (.int .i64 1) ∧ w'.cell? ⟨w1.heap.size, 3, none⟩ = some (.int .i64 0) ∧ w'.cell? ⟨w1.heap.size, 4, none⟩ = some (.int .i64 2) ∧ w'.cell? ⟨w1.heap.size, 5, none⟩ = some (.bool false))) (by kernel_rfl) ⟨hcell (unhide HO3) 0, hcell (unhide HO3) 1, hcell (unhide HO3) 2, hcell (unhide HO3) 3, hcell (unhide HO3) 4, hcell (unhide HO3) 5⟩ (fun hHeld2 => ?_)
  refine wpAnyH_take (i := 0) (oi := { dst := some 62, op := _, type := _, pos := _, after := _, guard := _ }) (v := ?_) rfl (by kernel_rfl) (by kernel_rfl) (by kernel_rfl) (fun _ _ _ h => h) (Or.inl ⟨by rfl, ?_⟩) (by assumption) ?_
  case refine_2 =>
    intro w hSw
    try dsimp only at hSw
    go_simp
    try with_reducible rfl
  simp only [Act.put, List.setIfInBounds_toArray, List.set_cons_zero, List.set_cons_succ]
  refine wpAnyH_take (i := 1) (oi := { dst := some 63, op := _, type := _, pos := _, after := _, guard := _ }) (v := ?_) rfl (by kernel_rfl) (by kernel_rfl) (by kernel_rfl) (fun _ _ _ h => h) (Or.inl ⟨by rfl, ?_⟩) (by assumption) ?_
  case refine_2 =>
    intro w hSw
    try dsimp only at hSw
    go_simp
    try with_reducible rfl
  simp only [Act.put, List.setIfInBounds_toArray, List.set_cons_zero, List.set_cons_succ]
  refine wpAnyH_take (i := 2) (oi := { dst := some 64, op := _, type := _, pos := _, after := _, guard := _ }) (v := ?_) rfl (by kernel_rfl) (by kernel_rfl) (by kernel_rfl) (fun _ _ _ h => h) (Or.inl ⟨by rfl, ?_⟩) (by assumption) ?_
  case refine_2 =>
    intro w hSw
    try dsimp only at hSw
    go_simp
    try with_reducible rfl
  simp only [Act.put, List.setIfInBounds_toArray, List.set_cons_zero, List.set_cons_succ]
  refine wpAnyH_take (i := 3) (oi := { dst := some 65, op := _, type := _, pos := _, after := _, guard := _ }) (v := ?_) rfl (by kernel_rfl) (by kernel_rfl) (by kernel_rfl) (fun _ _ _ h => h) (Or.inl ⟨by rfl, ?_⟩) (by assumption) ?_
  case refine_2 =>
    intro w hSw
    try dsimp only at hSw
    go_simp
    try with_reducible rfl
  simp only [Act.put, List.setIfInBounds_toArray, List.set_cons_zero, List.set_cons_succ]
  refine wpAnyH_take (i := 4) (oi := { dst := some 66, op := _, type := _, pos := _, after := _, guard := _ }) (v := ?_) rfl (by kernel_rfl) (by kernel_rfl) (by kernel_rfl) (fun _ _ _ h => h) (Or.inl ⟨by rfl, ?_⟩) (by assumption) ?_
  case refine_2 =>
    intro w hSw
    try dsimp only at hSw
    go_simp
    try with_reducible rfl
  simp only [Act.put, List.setIfInBounds_toArray, List.set_cons_zero, List.set_cons_succ]
  refine wpAnyH_ready (rs := [5]) (by kernel_rfl) (by simp) ?_
  refine AllReadyH.cons (o := { dst := some 67, op := _, type := _, pos := _, after := _, guard := _ }) rfl (fun K hK => ?_) AllReadyH.nil
  have mk2 := makeTwo
  go_simp
  clear mk2
  have hb3 : Below W.heap.size W (W.drew.alloc (.cells #[.int .i64 0, .int .i64 0, .string ⟨#[]⟩, .int .i64 0, .int .i64 0, .string ⟨#[]⟩] 28)) := (Below.drew (Below.refl _ _)).alloc (Nat.le_refl _) _
  have K3 := hide ((unhide K2).keep hb3)
  have HM3 := hide ((unhide HM2).keep (hb3.block mb (unhide HM2).lt))
  have HO4 := hide ((hb3.block w1.heap.size (hlt (unhide HO2))).trans (unhide HO2))
  have HV3 : Hid ((W.drew.alloc (.cells #[.int .i64 0, .int .i64 0, .string ⟨#[]⟩, .int .i64 0, .int .i64 0, .string ⟨#[]⟩] 28)).heap[W.heap.size]? = some (.cells #[.int .i64 0, .int .i64 0, .string ⟨#[]⟩, .int .i64 0, .int .i64 0, .string ⟨#[]⟩] 28 (0, 0))) := hnew' W.drew _ rfl
  have HF3 := hide ((unhide HF2).trans (Fr.of_below hb3))
  have hWh : W.heap.size ≠ h := fun q => by have := hlt (unhide K2).blk; omega
  clear hb3
  refine hK.out _ _ ⟨hcell (unhide HO4) 0, hcell (unhide HO4) 1, hcell (unhide HO4) 2, hcell (unhide HO4) 3, hcell (unhide HO4) 4, hcell (unhide HO4) 5⟩ (fun hHeld3 => ?_)
  clear hK K
  try simp only [World.heap_drew] at *
  refine wpAnyH_ready (rs := [6]) (by kernel_rfl) (by simp) ?_
  refine AllReadyH.cons (o := { dst := some 68, op := _, type := _, pos := _, after := _, guard := _ }) rfl (fun K hK => ?_) AllReadyH.nil
  go_simp
  refine (add_first (unhide K3) (unhide HV3) hWh).mono ?_
  rintro e w4 ⟨rfl, hf4, og, co, fg, cf, hk4, ho4, l1, l2⟩
  have HF4 := hide ((unhide HF3).trans hf4)
  have HM4 := hide ((unhide HM3).keep (hf4.block mb (unhide HM3).lt (Ne.symm h3)))
  have HO5 := hide ((hf4.block w1.heap.size (hlt (unhide HO4)) hnh.1).trans (unhide HO4))
  have K4 := hide hk4
  have HOB := hide ho4
  have hl1 : w.heap.size ≤ og := Nat.le_trans (unhide HF3).size l1
  have hl2 : w.heap.size ≤ fg := Nat.le_trans (unhide HF3).size l2
  have hl3 : W.heap.size ≤ og ∧ W.heap.size ≤ fg := by simp at l1 l2; omega
  clear hf4 hk4 ho4 l1 l2
  refine hK.out _ _ ⟨hcell (unhide HO5) 0, hcell (unhide HO5) 1, hcell (unhide HO5) 2, hcell (unhide HO5) 3, hcell (unhide HO5) 4, hcell (unhide HO5) 5⟩ (fun hHeld4 => ?_)
  clear hK K
  refine wpAnyH_take (i := 7) (oi := { dst := some 11, op := _, type := _, pos := _, after := _, guard := _ }) (v := ?_) rfl (by kernel_rfl) (by kernel_rfl) (by kernel_rfl) (fun _ _ _ h => h) (Or.inl ⟨by rfl, ?_⟩) (by assumption) ?_
  case refine_2 =>
    intro w hSw
    try dsimp only at hSw
    go_simp
    try with_reducible rfl
  simp only [Act.put, List.setIfInBounds_toArray, List.set_cons_zero, List.set_cons_succ]
  refine wpAnyH_done (by kernel_rfl) ?_ _
  have g2 : w4.cell? ⟨w1.heap.size, 2, none⟩ = some (.int .i64 1) := hcell (unhide HO5) 2
  clear hHeld hHeld1 hHeld2 hHeld3 hHeld4
  go_wp2_with fail
  have K5 : Hid (w4.drew.heap[h]? = _) := (unhide K4).blk
  have HO6 : Hid (w4.drew.heap[w1.heap.size]? = _) := unhide HO5
  have HM5 : Hid (MapIs w4.drew mb 0) := (unhide HM4).keep rfl
  obtain ⟨w5, hrun, hg⟩ := (unhide HM5).put (Nat.zero_le _)
  have hb5 : ∀ j, j < w4.heap.size → j ≠ mb → w5.heap[j]? = w4.heap[j]? := fun j hj hn => hg.block j hj (fun q => hn (Option.some.inj q))
  have k5 := (hb5 h (hlt (unhide K4).blk) h3).trans (unhide K4).blk
  have o5 := (hb5 w1.heap.size (hlt (unhide HO5)) hnh.2).trans (unhide HO5)
  have HOB5 := hide ((unhide HOB).turn (w' := w5) (hb5 og (hlt (unhide HOB).o.choose_spec.1) (by have := (unhide HM).lt; omega)) (hb5 fg (hlt (unhide HOB).f.choose_spec.1) (by have := (unhide HM).lt; omega)))
  have HB5 : Hid (Below B w w5) := ((unhide HF4).below h1 hB).trans ⟨hg.os, hg.tape, hg.output, hg.size, fun j hj => hb5 j (by have := (unhide HF4).size; omega) (by omega)⟩
  have KK5 := hide k5
  clear hb5 hg
  refine wp_region_held_drew (S := fun w' => w'.cell? ⟨h, 9, none⟩ = some (.map (some mb)) ∧ w'.cell? ⟨w1.heap.size, 2, none⟩ = some (.int .i64 1)) (by kernel_rfl) ⟨hcell (unhide K5) 9, hcell (unhide HO6) 2⟩ (fun hHeld5 => ?_)
  refine wpAnyH_take (i := 0) (oi := { dst := some 72, op := _, type := _, pos := _, after := _, guard := _ }) (v := ?_) rfl (by kernel_rfl) (by kernel_rfl) (by kernel_rfl) (fun _ _ _ h => h) (Or.inl ⟨by rfl, ?_⟩) (by assumption) ?_
  case refine_2 =>
    intro w hSw
    try dsimp only at hSw
    go_simp
    try with_reducible rfl
  simp only [Act.put, List.setIfInBounds_toArray, List.set_cons_zero, List.set_cons_succ]
  refine wpAnyH_take (i := 1) (oi := { dst := some 73, op := _, type := _, pos := _, after := _, guard := _ }) (v := ?_) rfl (by kernel_rfl) (by kernel_rfl) (by kernel_rfl) (fun _ _ _ h => h) (Or.inl ⟨by rfl, ?_⟩) (by assumption) ?_
  case refine_2 =>
    intro w hSw
    try dsimp only at hSw
    go_simp
    try with_reducible rfl
  simp only [Act.put, List.setIfInBounds_toArray, List.set_cons_zero, List.set_cons_succ]
  refine wpAnyH_take (i := 2) (oi := { dst := some 74, op := _, type := _, pos := _, after := _, guard := _ }) (v := ?_) rfl (by kernel_rfl) (by kernel_rfl) (by kernel_rfl) (fun _ _ _ h => h) (Or.inl ⟨by rfl, ?_⟩) (by assumption) ?_
  case refine_2 =>
    intro w hSw
    try dsimp only at hSw
    go_simp
    try with_reducible rfl
  simp only [Act.put, List.setIfInBounds_toArray, List.set_cons_zero, List.set_cons_succ]
  refine wpAnyH_take (i := 3) (oi := { dst := some 75, op := _, type := _, pos := _, after := _, guard := _ }) (v := ?_) rfl (by kernel_rfl) (by kernel_rfl) (by kernel_rfl) (fun _ _ _ h => h) (Or.inl ⟨by rfl, ?_⟩) (by assumption) ?_
  case refine_2 =>
    intro w hSw
    try dsimp only at hSw
    go_simp
    try with_reducible rfl
  simp only [Act.put, List.setIfInBounds_toArray, List.set_cons_zero, List.set_cons_succ]
  refine wpAnyH_take (i := 4) (oi := { dst := some 76, op := _, type := _, pos := _, after := _, guard := _ }) (v := ?_) rfl (by kernel_rfl) (by kernel_rfl) (by kernel_rfl) (fun _ _ _ h => h) (Or.inl ⟨by rfl, ?_⟩) (by assumption) ?_
  case refine_2 =>
    intro w hSw
    try dsimp only at hSw
    go_simp
    try with_reducible rfl
  simp only [Act.put, List.setIfInBounds_toArray, List.set_cons_zero, List.set_cons_succ]
  refine wpAnyH_take (i := 5) (oi := { dst := some 77, op := _, type := _, pos := _, after := _, guard := _ }) (v := ?_) rfl (by kernel_rfl) (by kernel_rfl) (by kernel_rfl) (fun _ _ _ h => h) (Or.inl ⟨by rfl, ?_⟩) (by assumption) ?_
  case refine_2 =>
    intro w hSw
    try dsimp only at hSw
    go_simp
    try with_reducible rfl
  simp only [Act.put, List.setIfInBounds_toArray, List.set_cons_zero, List.set_cons_succ]
  refine wpAnyH_take (i := 6) (oi := { dst := some 78, op := _, type := _, pos := _, after := _, guard := _ }) (v := ?_) rfl (by kernel_rfl) (by kernel_rfl) (by kernel_rfl) (fun _ _ _ h => h) (Or.inl ⟨by rfl, ?_⟩) (by assumption) ?_
  case refine_2 =>
    intro w hSw
    try dsimp only at hSw
    go_simp
    try with_reducible rfl
  simp only [Act.put, List.setIfInBounds_toArray, List.set_cons_zero, List.set_cons_succ]
  refine wpAnyH_ready (rs := [7]) (by kernel_rfl) (by simp) ?_
  refine AllReadyH.cons (o := { dst := none, op := _, type := _, pos := _, after := _, guard := _ }) rfl (fun K hK => ?_) AllReadyH.nil
  go_simp
  refine hK.out _ _ ⟨hcell k5 9, hcell o5 2⟩ (fun hHeld6 => ?_)
  clear hK K
  refine wpAnyH_done (by kernel_rfl) ?_ _
  clear hrun k5 o5
  go_wp2_with fail
  go_ret2
  exact ⟨rfl, unhide HB5, og, co, fg, cf, ⟨unhide KK5⟩, unhide HOB5, fun q => by have := hlt (unhide K).blk; omega, by omega⟩
end Go.Proofs.YtkmeahgnijeheaaDoor
