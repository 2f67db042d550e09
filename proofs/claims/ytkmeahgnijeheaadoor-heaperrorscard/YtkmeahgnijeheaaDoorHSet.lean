/-
  A field is set.
-/
import Derived.Test.YtkmeahgnijeheaaDoorHAlloc
import Derived.LaidEqlPtr
namespace Go.Proofs.YtkmeahgnijeheaaDoor
open Go.RowKit

theorem infoPart : (Tryd.prog.info? 41).map (fun i => (i.zero, i.size, i.bytes)) = some (some (.agg #[.int .i64 0, .slice none 0 0, .slice none 0 0]), 3, 56) := by kernel_rfl
/-- The old part lies elsewhere. -/
theorem parts_other {w : World} {h : Nat} {cs : Array Value} {t : TypeId} (hb : w.heap[h]? = some (.cells cs t (0, 0))) : (binOp .eql 46 (.pointer (some ⟨h, 0, none⟩)) (.pointer (some ⟨h, 3, none⟩))).run Tryd.prog w = .ok (.bool false) w := by
  obtain ⟨ip, hip, _, hps, _⟩ := info_parts infoPart
  exact run_eql_ptr_other w Tryd.underlying46 hip (by omega) (by simp) hb hb
theorem set3 {cur : Array Value} (hs : 6 ≤ cur.size) (a b c : Value) : (((cur.setIfInBounds 0 a).setIfInBounds 1 b).setIfInBounds 2 c)[0]? = some a ∧ (((cur.setIfInBounds 0 a).setIfInBounds 1 b).setIfInBounds 2 c)[1]? = some b ∧ (((cur.setIfInBounds 0 a).setIfInBounds 1 b).setIfInBounds 2 c)[2]? = some c ∧
    (((cur.setIfInBounds 0 a).setIfInBounds 1 b).setIfInBounds 2 c)[3]? = cur[3]? ∧ (((cur.setIfInBounds 0 a).setIfInBounds 1 b).setIfInBounds 2 c)[4]? = cur[4]? ∧ (((cur.setIfInBounds 0 a).setIfInBounds 1 b).setIfInBounds 2 c)[5]? = cur[5]? := by
  have h0 : 0 < cur.size := by omega
  have h1 : 1 < cur.size := by omega
  have h2 : 2 < cur.size := by omega
  refine ⟨?_, ?_, ?_, ?_, ?_, ?_⟩ <;> simp [h0, h1, h2]
theorem num_below {w : World} {h mb og co : Nat} {vf : Value} {last : Int} (k : Hp w h mb (sv og co 1) vf last) : ∀ w', Below w.heap.size w w' → Calls Tryd.prog 20 #[.pointer (some ⟨h, 0, none⟩), .int .i64 (-1)] w' fun e w'' => NumPost w' e w'' :=
  fun _ hb => number_below (hcell (k.keep hb).blk 0) (hcell (k.keep hb).blk 1)
theorem num_empty {w : World} {h mb : Nat} {vf : Value} {last : Int} (k : Hp w h mb (.slice none 0 0) vf last) (a : Int) : ∀ w', Below w.heap.size w w' → Calls Tryd.prog 20 #[.pointer (some ⟨h, 0, none⟩), .int .i64 a] w' fun e w'' => NumPost w' e w'' :=
  fun _ hb => number_empty (hcell (k.keep hb).blk 0) (hcell (k.keep hb).blk 1)

set_option maxRecDepth 100000 in
set_option maxHeartbeats 4000000 in
theorem set_missing {w : World} {h mb : Nat} {last a i : Int} (k : Hp w h mb (.slice none 0 0) (.slice none 0 0) last) :
    Calls Tryd.prog 6 #[.pointer (some ⟨h, 0, none⟩), .int .i64 a, .int .i64 i, .agg #[.int .i64 0, .int .i64 0, .string ⟨#[]⟩]] w fun e w' => e = .returned (.iface 35 (.int .i64 7)) ∧ Below w.heap.size w w' := by
  have K := hide k
  have HBA := hide (fun o => (Below.refl w.heap.size w).alloc (Nat.le_refl _) o)
  have q0 := neqNil0
  clear k
  go_enter Tryd.func6, Tryd.ntmps6
  go_wp2_with fail
  refine (get_missing ((unhide K).keep (unhide HBA _)) (num_empty ((unhide K).keep (unhide HBA _)) a)).mono ?_
  rintro e w1 ⟨rfl, hb1⟩
  have HB1 := hide ((unhide HBA _).trans (hb1.mono (by simp)))
  clear hb1
  go_wp2_with fail
  go_ret
  exact ⟨rfl, (unhide HB1).alloc (unhide HB1).size _⟩

set_option maxRecDepth 100000 in
set_option maxHeartbeats 4000000 in
theorem set_bad {w : World} {h mb og co fg cf : Nat} {x0 x1 last : Int} (k : Hp w h mb (sv og co 1) (sv fg cf 2) last) (ko : Ob w og co fg cf x0 x1) :
    Calls Tryd.prog 6 #[.pointer (some ⟨h, 0, none⟩), .int .i64 1, .int .i64 1, .agg #[.int .i64 4, .int .i64 (-1), .string ⟨#[]⟩]] w fun e w' => e = .returned (.iface 35 (.int .i64 7)) ∧ Below w.heap.size w w' := by
  have K := hide k
  have KO := hide ko
  have HBA := hide (fun o => (Below.refl w.heap.size w).alloc (Nat.le_refl _) o)
  have q0 := neqNil0
  clear k ko
  go_enter Tryd.func6, Tryd.ntmps6
  go_wp2_with fail
  refine (get_first1 ((unhide K).keep (unhide HBA _)) ((unhide KO).keep (unhide HBA _))).mono ?_
  rintro e w1 ⟨rfl, hb1⟩
  have HB1 := hide ((unhide HBA _).trans (hb1.mono (by simp)))
  have hv := (hb1.block w.heap.size (by simp)).trans (hnew w _)
  have v0 : ∀ o, (w1.alloc o).cell? ⟨w.heap.size, 0, none⟩ = some (.int .i64 4) := cell_al (hcell hv 0)
  have v1 : ∀ o, (w1.alloc o).cell? ⟨w.heap.size, 1, none⟩ = some (.int .i64 (-1)) := cell_al (hcell hv 1)
  have HB2 : Hid (∀ o, Below w.heap.size w (w1.alloc o)) := fun o => (unhide HB1).alloc (unhide HB1).size o
  clear hb1 hv
  go_wp2_with fail
  refine (kind_none ((unhide K).keep (unhide HB2 _)) (num_below ((unhide K).keep (unhide HB2 _)))).mono ?_
  rintro e w3 ⟨rfl, hb3⟩
  have HB3 := hide ((unhide HB2 _).trans (hb3.mono (unhide HB2 _).size))
  clear hb3 v0 v1
  go_wp2_with fail
  go_ret
  exact ⟨rfl, unhide HB3⟩

set_option maxRecDepth 100000 in
set_option maxHeartbeats 4000000 in
/-- The first field is set. -/
theorem set_first {B : Nat} {w : World} {h mb og co fg cf : Nat} {x0 x1 last : Int} (k : Hp w h mb (sv og co 1) (sv fg cf 2) last) (ko : Ob w og co fg cf x0 x1) (hfh : fg ≠ h) (hB : B ≤ fg) :
    Calls Tryd.prog 6 #[.pointer (some ⟨h, 0, none⟩), .int .i64 1, .int .i64 0, .agg #[.int .i64 4, .int .i64 1, .string ⟨#[]⟩]] w fun e w' => e = .returned .nilIface ∧ Below B w w' ∧ Hp w' h mb (sv og co 1) (sv fg cf 2) last ∧ Ob w' og co fg cf 4 1 := by
  have KH := hide k
  have KO := hide ko
  have HBA := hide (fun o => (Below.refl w.heap.size w).alloc (Nat.le_refl _) o)
  have q0 := neqNil0
  have hfl : fg < w.heap.size := hlt ko.f.choose_spec.1
  clear k ko
  go_enter Tryd.func6, Tryd.ntmps6
  go_wp2_with fail
  refine (get_first0 ((unhide KH).keep (unhide HBA _)) ((unhide KO).keep (unhide HBA _))).mono ?_
  rintro e w1 ⟨rfl, hb1⟩
  have HB1 := hide ((unhide HBA _).trans (hb1.mono (by simp)))
  have hv := (hb1.block w.heap.size (by simp)).trans (hnew w _)
  have HV1 := hide hv
  have v0 : ∀ o, (w1.alloc o).cell? ⟨w.heap.size, 0, none⟩ = some (.int .i64 4) := cell_al (hcell hv 0)
  have v1 : ∀ o, (w1.alloc o).cell? ⟨w.heap.size, 1, none⟩ = some (.int .i64 1) := cell_al (hcell hv 1)
  have HB2 : Hid (∀ o, Below w.heap.size w (w1.alloc o)) := fun o => (unhide HB1).alloc (unhide HB1).size o
  have HV2 : Hid (∀ o, (w1.alloc o).heap[w.heap.size]? = _) := fun o => (Below.heap_alloc _ _ _ (hlt hv)).trans hv
  clear hb1 hv
  go_wp2_with fail
  refine (kind_first ((unhide KH).keep (unhide HB2 _)) ((unhide KO).keep (unhide HB2 _))).mono ?_
  rintro e w3 ⟨rfl, hb3⟩
  have HB3 := hide ((unhide HB2 _).trans (hb3.mono (unhide HB2 _).size))
  have HV3 := hide ((hb3.block w.heap.size (hlt (unhide HV2 _))).trans (unhide HV2 _))
  clear hb3 v0 v1
  go_wp2_with fail
  refine (find_first ((unhide KH).keep (unhide HB3))).mono ?_
  rintro e w4 ⟨rfl, hb4⟩
  have HB4 := hide ((unhide HB3).trans (hb4.mono (unhide HB3).size))
  have HV4 := hide ((hb4.block w.heap.size (hlt (unhide HV3))).trans (unhide HV3))
  clear hb4
  go_wp2_with fail
  have HV5 : Hid (w4.drew.heap[w.heap.size]? = _) := unhide HV4
  have HB5 := hide (Below.drew (unhide HB4))
  refine wp_region_held_drew (S := (fun w' => w'.cell? ⟨w.heap.size, 0, none⟩ = some (.int .i64 4) ∧ w'.cell? ⟨w.heap.size, 1, none⟩ = some (.int .i64 1) ∧ w'.cell? ⟨w.heap.size, 2, none⟩ = some (.string ⟨#[]⟩))) (by kernel_rfl) ⟨hcell (unhide HV5) 0, hcell (unhide HV5) 1, hcell (unhide HV5) 2⟩ (fun hHeld => ?_)
  refine wpAnyH_take (i := 0) (oi := { dst := some 40, op := _, type := _, pos := _, after := _, guard := _ }) (v := ?_) rfl (by kernel_rfl) (by kernel_rfl) (by kernel_rfl) (fun _ _ _ h => h) (Or.inl ⟨by rfl, ?_⟩) (by assumption) ?_
  case refine_2 =>
    intro w hSw
    try dsimp only at hSw
    go_simp
    try with_reducible rfl
  simp only [Act.put, List.setIfInBounds_toArray, List.set_cons_zero, List.set_cons_succ]
  refine wpAnyH_take (i := 1) (oi := { dst := some 41, op := _, type := _, pos := _, after := _, guard := _ }) (v := ?_) rfl (by kernel_rfl) (by kernel_rfl) (by kernel_rfl) (fun _ _ _ h => h) (Or.inl ⟨by rfl, ?_⟩) (by assumption) ?_
  case refine_2 =>
    intro w hSw
    try dsimp only at hSw
    go_simp
    try with_reducible rfl
  simp only [Act.put, List.setIfInBounds_toArray, List.set_cons_zero, List.set_cons_succ]
  refine wpAnyH_take (i := 3) (oi := { dst := some 43, op := _, type := _, pos := _, after := _, guard := _ }) (v := ?_) rfl (by kernel_rfl) (by kernel_rfl) (by kernel_rfl) (fun _ _ _ h => h) (Or.inl ⟨by rfl, ?_⟩) (by assumption) ?_
  case refine_2 =>
    intro w hSw
    try dsimp only at hSw
    go_simp
    try with_reducible rfl
  simp only [Act.put, List.setIfInBounds_toArray, List.set_cons_zero, List.set_cons_succ]
  refine wpAnyH_take (i := 4) (oi := { dst := some 44, op := _, type := _, pos := _, after := _, guard := _ }) (v := ?_) rfl (by kernel_rfl) (by kernel_rfl) (by kernel_rfl) (fun _ _ _ h => h) (Or.inl ⟨by rfl, ?_⟩) (by assumption) ?_
  case refine_2 =>
    intro w hSw
    try dsimp only at hSw
    go_simp
    try with_reducible rfl
  simp only [Act.put, List.setIfInBounds_toArray, List.set_cons_zero, List.set_cons_succ]
  refine wpAnyH_ready (rs := [2]) (by kernel_rfl) (by simp) ?_
  refine AllReadyH.cons (o := { dst := some 42, op := _, type := _, pos := _, after := _, guard := _ }) rfl (fun K hK => ?_) AllReadyH.nil
  go_simp
  refine (has_first ((unhide KH).keep (unhide HB5)) ((unhide KO).keep (unhide HB5))).mono ?_
  rintro e w6 ⟨rfl, hb6⟩
  have HB6 := hide ((unhide HB5).trans (hb6.mono (unhide HB5).size))
  have hv6 := (hb6.block w.heap.size (hlt (unhide HV5))).trans (unhide HV5)
  have KO6 := hide ((unhide KO).keep (unhide HB6))
  have K6 := hide ((unhide KH).keep (unhide HB6))
  obtain ⟨cur, hc, x0', x1', x2', x3', x4', x5'⟩ := (unhide KO6).f
  have z0 := (hcell hc 0).trans x0'
  have z1 := (hcell hc 1).trans x1'
  have z2 := (hcell hc 2).trans x2'
  have y0 := hfroz hc 0
  have y1 := hfroz hc 1
  have y2 := hfroz hc 2
  have HC := hide hc
  have hsz : 6 ≤ cur.size := by
    have := (Array.getElem?_eq_some_iff.1 x5').1
    omega
  have s6 : (((w6.setCell ⟨fg, 0, none⟩ (.int .i64 4)).setCell ⟨fg, 1, none⟩ (.int .i64 1)).setCell ⟨fg, 2, none⟩ (.string ⟨#[]⟩)).heap[w.heap.size]? = _ := (hother _ (by omega)).trans ((hother _ (by omega)).trans ((hother _ (by omega)).trans hv6))
  have HF : Hid ((((w6.setCell ⟨fg, 0, none⟩ (.int .i64 4)).setCell ⟨fg, 1, none⟩ (.int .i64 1)).setCell ⟨fg, 2, none⟩ (.string ⟨#[]⟩)).heap[fg]? = _) := hset (hset (hset hc 0 (.int .i64 4)) 1 (.int .i64 1)) 2 (.string ⟨#[]⟩)
  have HOG : Hid ((((w6.setCell ⟨fg, 0, none⟩ (.int .i64 4)).setCell ⟨fg, 1, none⟩ (.int .i64 1)).setCell ⟨fg, 2, none⟩ (.string ⟨#[]⟩)).heap[og]? = w6.heap[og]?) := (hother _ (unhide KO6).ne).trans ((hother _ (unhide KO6).ne).trans (hother _ (unhide KO6).ne))
  have HHH : Hid ((((w6.setCell ⟨fg, 0, none⟩ (.int .i64 4)).setCell ⟨fg, 1, none⟩ (.int .i64 1)).setCell ⟨fg, 2, none⟩ (.string ⟨#[]⟩)).heap[h]? = w6.heap[h]?) := (hother _ (Ne.symm hfh)).trans ((hother _ (Ne.symm hfh)).trans (hother _ (Ne.symm hfh)))
  have HBF : Hid (Below B w (((w6.setCell ⟨fg, 0, none⟩ (.int .i64 4)).setCell ⟨fg, 1, none⟩ (.int .i64 1)).setCell ⟨fg, 2, none⟩ (.string ⟨#[]⟩))) := ((((unhide HB6).mono (by omega)).setCell (p := ⟨fg, 0, none⟩) hB _).setCell (p := ⟨fg, 1, none⟩) hB _).setCell (p := ⟨fg, 2, none⟩) hB _
  have KF : Hid (Hp (((w6.setCell ⟨fg, 0, none⟩ (.int .i64 4)).setCell ⟨fg, 1, none⟩ (.int .i64 1)).setCell ⟨fg, 2, none⟩ (.string ⟨#[]⟩)) h mb (sv og co 1) (sv fg cf 2) last) := ⟨(unhide HHH).trans (unhide K6).blk⟩
  have OF : Hid (Ob (((w6.setCell ⟨fg, 0, none⟩ (.int .i64 4)).setCell ⟨fg, 1, none⟩ (.int .i64 1)).setCell ⟨fg, 2, none⟩ (.string ⟨#[]⟩)) og co fg cf 4 1) := by
    obtain ⟨⟨c, a1, a2⟩, _, h5, h6, h7⟩ := unhide KO6
    refine ⟨⟨c, (unhide HOG).trans a1, a2⟩, ⟨_, unhide HF, ?_, ?_, ?_, ?_, ?_, ?_⟩, h5, h6, h7⟩
    · exact (set3 hsz _ _ _).1
    · exact (set3 hsz _ _ _).2.1
    · exact (set3 hsz _ _ _).2.2.1
    · exact (set3 hsz _ _ _).2.2.2.1.trans x3'
    · exact (set3 hsz _ _ _).2.2.2.2.1.trans x4'
    · exact (set3 hsz _ _ _).2.2.2.2.2.trans x5'
  clear hb6 hc x0' x1' x2' x3' x4' x5' hsz
  refine hK.out _ _ ⟨hcell hv6 0, hcell hv6 1, hcell hv6 2⟩ (fun hHeld6 => ?_)
  clear hK K hv6
  refine wpAnyH_take (i := 5) (oi := { dst := some 45, op := _, type := _, pos := _, after := _, guard := _ }) (v := ?_) rfl (by kernel_rfl) (by kernel_rfl) (by kernel_rfl) (fun _ _ _ h => h) (Or.inl ⟨by rfl, ?_⟩) (by assumption) ?_
  case refine_2 =>
    intro w hSw
    try dsimp only at hSw
    go_simp
    try with_reducible rfl
  simp only [Act.put, List.setIfInBounds_toArray, List.set_cons_zero, List.set_cons_succ]
  refine wpAnyH_ready (rs := [6]) (by kernel_rfl) (by simp) ?_
  refine AllReadyH.cons (o := { dst := none, op := _, type := _, pos := _, after := _, guard := _ }) rfl (fun K hK => ?_) AllReadyH.nil
  go_simp
  refine hK.out _ _ ⟨hcell s6 0, hcell s6 1, hcell s6 2⟩ (fun hHeld7 => ?_)
  clear hK K
  refine wpAnyH_done (by kernel_rfl) ?_ _
  have hpo := parts_other (unhide KF).blk
  go_wp2_with fail
  go_ret
  exact ⟨rfl, unhide HBF, unhide KF, unhide OF⟩
end Go.Proofs.YtkmeahgnijeheaaDoor
