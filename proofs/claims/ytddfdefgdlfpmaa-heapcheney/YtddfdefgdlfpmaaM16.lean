/-
  Set of a young object's field, in general.
-/
import Derived.Test.YtddfdefgdlfpmaaM15
import Derived.LaidEqlPtr
namespace Go.Proofs.Ytddfdefgdlfpmaa
open Go.RowKit Go.Maps

theorem neqNilG (w : World) : (binOp BinOp.neq 25 .nilIface .nilIface).run Try.prog w = .ok (.bool false) w := by kernel_rfl
theorem found_young {P : PHp} (hs : Small P) {j : Nat} (hj : j < P.Y.length) {r : Option (Bool × Nat)} (h : Found P (P.fy + 2 * j) r) : r = some (true, j) := by
  have h1 := hs.yo
  have h2 := hs.oe
  cases r, h using Found.parts with
  | young i hi e =>
    obtain rfl : i = j := by omega
    rfl
  | old i hi e => omega
  | none hy ho => exact absurd rfl (hy j hj)
theorem objOf_young {P : PHp} {j : Nat} {x : HO} (hx : P.Y[j]? = some x) : objOf P (some (true, j)) = some (beginAt P.Y j, x) := by
  simp [objOf, hx]
theorem infoPartG : (Try.prog.info? 48).map (fun i => (i.zero, i.size, i.bytes)) = some (some (.agg #[.int .i64 0, .slice none 0 0, .slice none 0 0]), 3, 56) := by kernel_rfl
/-- The old part lies elsewhere. -/
theorem parts_otherG {w : World} {h : Nat} {cs : Array Value} {t : TypeId} (hb : w.heap[h]? = some (.cells cs t (0, 0))) : (binOp .eql 60 (.pointer (some ⟨h, 0, none⟩)) (.pointer (some ⟨h, 3, none⟩))).run Try.prog w = .ok (.bool false) w := by
  have hi := infoPartG
  cases hq : Try.prog.info? 48 with
  | none => rw [hq] at hi; cases hi
  | some i =>
    rw [hq] at hi
    simp only [Option.map_some, Option.some.injEq, Prod.mk.injEq] at hi
    exact run_eql_ptr_other w Try.underlying60 hq (by omega) (by simp) hb hb
def SetG (B : Nat) (w : World) (hp mb : Nat) (P : PHp) (D : DataW Unit) (n : Nat) (i : Nat) (v : HV) (vyo vyf voo vof vn : Value) (w' : World) : Prop :=
  HpG B w' hp mb { P with Y := setF P.Y i v } D n vyo vyf voo vof vn ∧ (∀ k, k < w.heap.size → vyf.ownBlock ≠ some k → w'.heap[k]? = w.heap[k]?) ∧ w.heap.size ≤ w'.heap.size ∧ w'.os = w.os ∧ w'.tape = w.tape ∧ w'.output = w.output

set_option maxRecDepth 100000 in
set_option maxHeartbeats 4000000 in
theorem set_ref {B : Nat} {w : World} {hp mb : Nat} {P : PHp} {D : DataW Unit} {n : Nat} {vyo vyf voo vof vn : Value} (h : HpG B w hp mb P D n vyo vyf voo vof vn) {j k : Nat} {x : HO} (hx : P.Y[j]? = some x) (hk : k < x.fs.length) (v : HV) (hv : I64 v.n) (h4 : v.kind = 4) (hr : ∀ r, Found P v.n r → ∃ b y, objOf P r = some (b, y) ∧ y.kind ≠ 0) :
    Calls Try.prog 9 #[.pointer (some ⟨hp, 0, none⟩), .int .i64 (P.fy + 2 * j), .int .i64 k, .agg #[.int .i64 v.kind, .int .i64 v.n, .string v.s]] w fun e w' => e = .returned .nilIface ∧ SetG B w hp mb P D n (beginAt P.Y j + k) v vyo vyf voo vof vn w' := by
  have H := hide h
  have HX := hide hx
  have HBA := hide (fun o => (Below.refl w.heap.size w).alloc (Nat.le_refl _) o)
  have q0 := neqNilG
  have hj := (List.getElem?_eq_some_iff.1 hx).1
  have ha : I64 (P.fy + 2 * j) := by
    have h1 := h.small.y0
    have h2 := h.small.y1
    exact ⟨by omega, by omega⟩
  have HJ := hide hj
  have HA := hide ha
  have HVI := hide hv
  have H4 := hide h4
  obtain ⟨u, hu⟩ : ∃ u, x.fs[k]? = some u := ⟨x.fs[k], List.getElem?_eq_getElem hk⟩
  have hget : getV (some (beginAt P.Y j, x)) k = .tuple #[.agg #[.int .i64 u.kind, .int .i64 u.n, .string u.s], .nilIface] := by simp [getV, hu]
  have HU := hide hu
  have hbl := begin_le hx
  have hk2 : (k : Int) < (x.fs.length : Int) := by omega
  clear h hx hj ha hv hu h4
  go_enter Try.func9, Try.ntmps9
  go_wp2_with fail
  refine (get_any ((unhide H).keep (unhide HBA _)).at' (unhide H).small (unhide H).few (unhide HA)).mono ?_
  rintro e w1 ⟨r, hr1, rfl, hb1⟩
  obtain rfl := found_young (unhide H).small (unhide HJ) hr1
  rw [objOf_young (unhide HX), hget]
  have HB1 := hide ((unhide HBA _).trans (hb1.mono (by simp)))
  have hv := (hb1.block w.heap.size (by simp)).trans (hnew w _)
  have v0 : ∀ o, (w1.alloc o).cell? ⟨w.heap.size, 0, none⟩ = some (.int .i64 v.kind) := cell_al (hcell hv 0)
  have v1 : ∀ o, (w1.alloc o).cell? ⟨w.heap.size, 1, none⟩ = some (.int .i64 v.n) := cell_al (hcell hv 1)
  have HB2 : Hid (∀ o, Below w.heap.size w (w1.alloc o)) := fun o => (unhide HB1).alloc (unhide HB1).size o
  have HV2 : Hid (∀ o, (w1.alloc o).heap[w.heap.size]? = _) := fun o => (Below.heap_alloc _ _ _ (hlt hv)).trans hv
  clear hb1 hv hr1 hget
  rw [unhide H4] at v0
  have HR := hide hr
  clear hr
  go_wp2_with fail
  refine (kind_any ((unhide H).keep (unhide HB2 _)).at' (unhide H).small (unhide H).few (unhide HVI)).mono ?_
  rintro e w3 ⟨r, hr3, rfl, hb3⟩
  obtain ⟨b, y, hy, hyk⟩ := unhide HR r hr3
  rw [hy]
  dsimp only
  have hyk2 : (y.kind == 0) = false := by simpa using hyk
  have HB3 := hide ((unhide HB2 _).trans (hb3.mono (unhide HB2 _).size))
  have HV3 := hide ((hb3.block w.heap.size (hlt (unhide HV2 _))).trans (unhide HV2 _))
  clear hb3 v0 v1 hr3 hy
  go_wp2_with fail
  refine (find_any ((unhide H).keep (unhide HB3)).at' (unhide H).small (unhide HA)).mono ?_
  rintro e w4 ⟨r4, hr4, rfl, hb4⟩
  obtain rfl := found_young (unhide H).small (unhide HJ) hr4
  have HB4 := hide ((unhide HB3).trans (hb4.mono (unhide HB3).size))
  have HV4 := hide ((hb4.block w.heap.size (hlt (unhide HV3))).trans (unhide HV3))
  clear hb4 hr4
  simp only [foundV]
  go_wp2_with fail
  have HV5 : Hid (w4.drew.heap[w.heap.size]? = _) := unhide HV4
  have HB5 := hide (Below.drew (unhide HB4))
  refine wp_region_held_drew (S := (fun w' => w'.cell? ⟨w.heap.size, 0, none⟩ = some (.int .i64 v.kind) ∧ w'.cell? ⟨w.heap.size, 1, none⟩ = some (.int .i64 v.n) ∧ w'.cell? ⟨w.heap.size, 2, none⟩ = some (.string v.s))) (by kernel_rfl) ⟨hcell (unhide HV5) 0, hcell (unhide HV5) 1, hcell (unhide HV5) 2⟩ (fun hHeld => ?_)
  refine wpAnyH_take (i := 0) (oi := { dst := some 40, op := _, type := _, pos := _, after := _, guard := _ }) (v := ?_) rfl (by kernel_rfl) (by kernel_rfl) (by kernel_rfl) (fun _ _ _ h => h) (Or.inl ⟨by rfl, ?_⟩) (by assumption) ?_
  case refine_2 =>
    intro w hSw
    try dsimp only at hSw
    go_simp
    try with_reducible rfl
  simp only [Act.put, List.setIfInBounds_toArray, List.set_cons_zero, List.set_cons_succ]
  refine wpAnyH_take (i := 1) (oi := { dst := some 41, op := _, type := _, pos := _, after := _, guard := _ }) (v := ?_) rfl (by kernel_rfl) (by kernel_rfl) (by kernel_rfl) (fun _ _ _ h => h) (Or.inl ⟨by rfl, ?_⟩) (by assumption) ?_
  case refine_2 =>
    intro w hSw
    try dsimp only at hSw
    go_simp
    try with_reducible rfl
  simp only [Act.put, List.setIfInBounds_toArray, List.set_cons_zero, List.set_cons_succ]
  refine wpAnyH_take (i := 3) (oi := { dst := some 43, op := _, type := _, pos := _, after := _, guard := _ }) (v := ?_) rfl (by kernel_rfl) (by kernel_rfl) (by kernel_rfl) (fun _ _ _ h => h) (Or.inl ⟨by rfl, ?_⟩) (by assumption) ?_
  case refine_2 =>
    intro w hSw
    try dsimp only at hSw
    go_simp
    try with_reducible rfl
  simp only [Act.put, List.setIfInBounds_toArray, List.set_cons_zero, List.set_cons_succ]
  refine wpAnyH_take (i := 4) (oi := { dst := some 44, op := _, type := _, pos := _, after := _, guard := _ }) (v := ?_) rfl (by kernel_rfl) (by kernel_rfl) (by kernel_rfl) (fun _ _ _ h => h) (Or.inl ⟨by rfl, ?_⟩) (by assumption) ?_
  case refine_2 =>
    intro w hSw
    try dsimp only at hSw
    go_simp
    try with_reducible rfl
  simp only [Act.put, List.setIfInBounds_toArray, List.set_cons_zero, List.set_cons_succ]
  refine wpAnyH_ready (rs := [2]) (by kernel_rfl) (by simp) ?_
  refine AllReadyH.cons (o := { dst := some 42, op := _, type := _, pos := _, after := _, guard := _ }) rfl (fun K hK => ?_) AllReadyH.nil
  go_simp
  refine (has_any (((unhide H).keep (unhide HB5)).at'.young (unhide H).few) (unhide HX)).mono ?_
  rintro e w6 ⟨hb6, g', cap', rfl, hcap, hg⟩
  obtain ⟨g, cap, hvf, rfl, rfl⟩ := hg (by omega)
  have HB6 := hide ((unhide HB5).trans (hb6.mono (unhide HB5).size))
  have hv6 := (hb6.block w.heap.size (hlt (unhide HV5))).trans (unhide HV5)
  have H6 := hide ((unhide H).keep (unhide HB6))
  obtain ⟨z0, z1, z2⟩ := ((unhide H6).at'.young (unhide H).few).fld (unhide HX) (unhide HU) hvf
  have hob : vyf.ownBlock = some g := by rw [hvf]; rfl
  have hgl : g < w.heap.size := (owns_ty (unhide H).at'.yf hob).lt
  obtain ⟨gcs, gfr, hgb⟩ : ∃ cs fr, w6.heap[g]? = some (.cells cs 34 fr) := by
    obtain ⟨_, _, cs, q⟩ := owns_type (unhide H6).at'.yf g hob
    exact ⟨cs, _, q⟩
  obtain rfl : gfr = (0, 0) := by
    obtain ⟨_, _, cs, q⟩ := owns_type (unhide H6).at'.yf g hob
    rw [q] at hgb
    cases hgb
    rfl
  have y0 := hfroz hgb (beginAt P.Y j * 3 + k * 3)
  have y1 := hfroz hgb (beginAt P.Y j * 3 + k * 3 + 1)
  have y2 := hfroz hgb (beginAt P.Y j * 3 + k * 3 + 2)
  have H7 : Hid (HpG B (((w6.setCell ⟨g, beginAt P.Y j * 3 + k * 3, none⟩ (.int .i64 v.kind)).setCell ⟨g, beginAt P.Y j * 3 + k * 3 + 1, none⟩ (.int .i64 v.n)).setCell ⟨g, beginAt P.Y j * 3 + k * 3 + 2, none⟩ (.string v.s)) hp mb { P with Y := setF P.Y (beginAt P.Y j + k) v } D n vyo vyf voo vof vn) := by
    have q := (unhide H6).fieldSet hvf (i := beginAt P.Y j + k) (by omega) v (unhide HVI)
    rw [show (beginAt P.Y j + k) * 3 = beginAt P.Y j * 3 + k * 3 by omega] at q
    exact q
  have s6 : (((w6.setCell ⟨g, beginAt P.Y j * 3 + k * 3, none⟩ (.int .i64 v.kind)).setCell ⟨g, beginAt P.Y j * 3 + k * 3 + 1, none⟩ (.int .i64 v.n)).setCell ⟨g, beginAt P.Y j * 3 + k * 3 + 2, none⟩ (.string v.s)).heap[w.heap.size]? = _ := (hother _ (by omega)).trans ((hother _ (by omega)).trans ((hother _ (by omega)).trans hv6))
  have HK7 : Hid (∀ q, q ≠ g → (((w6.setCell ⟨g, beginAt P.Y j * 3 + k * 3, none⟩ (.int .i64 v.kind)).setCell ⟨g, beginAt P.Y j * 3 + k * 3 + 1, none⟩ (.int .i64 v.n)).setCell ⟨g, beginAt P.Y j * 3 + k * 3 + 2, none⟩ (.string v.s)).heap[q]? = w6.heap[q]?) := fun q hq => by rw [hother _ hq, hother _ hq, hother _ hq]
  have HZ7 : Hid ((((w6.setCell ⟨g, beginAt P.Y j * 3 + k * 3, none⟩ (.int .i64 v.kind)).setCell ⟨g, beginAt P.Y j * 3 + k * 3 + 1, none⟩ (.int .i64 v.n)).setCell ⟨g, beginAt P.Y j * 3 + k * 3 + 2, none⟩ (.string v.s)).heap.size = w6.heap.size ∧ (((w6.setCell ⟨g, beginAt P.Y j * 3 + k * 3, none⟩ (.int .i64 v.kind)).setCell ⟨g, beginAt P.Y j * 3 + k * 3 + 1, none⟩ (.int .i64 v.n)).setCell ⟨g, beginAt P.Y j * 3 + k * 3 + 2, none⟩ (.string v.s)).os = w6.os ∧ (((w6.setCell ⟨g, beginAt P.Y j * 3 + k * 3, none⟩ (.int .i64 v.kind)).setCell ⟨g, beginAt P.Y j * 3 + k * 3 + 1, none⟩ (.int .i64 v.n)).setCell ⟨g, beginAt P.Y j * 3 + k * 3 + 2, none⟩ (.string v.s)).tape = w6.tape ∧ (((w6.setCell ⟨g, beginAt P.Y j * 3 + k * 3, none⟩ (.int .i64 v.kind)).setCell ⟨g, beginAt P.Y j * 3 + k * 3 + 1, none⟩ (.int .i64 v.n)).setCell ⟨g, beginAt P.Y j * 3 + k * 3 + 2, none⟩ (.string v.s)).output = w6.output) := ⟨by simp [World.setCell], rfl, rfl, rfl⟩
  have HOB := hide hob
  clear hb6 hgb hg hcap hvf hob
  refine hK.out _ _ ⟨hcell hv6 0, hcell hv6 1, hcell hv6 2⟩ (fun hHeld6 => ?_)
  clear hK K hv6
  refine wpAnyH_take (i := 5) (oi := { dst := some 45, op := _, type := _, pos := _, after := _, guard := _ }) (v := ?_) rfl (by kernel_rfl) (by kernel_rfl) (by kernel_rfl) (fun _ _ _ h => h) (Or.inl ⟨by rfl, ?_⟩) (by assumption) ?_
  case refine_2 =>
    intro w hSw
    try dsimp only at hSw
    go_simp
    try with_reducible rfl
  simp only [Act.put, List.setIfInBounds_toArray, List.set_cons_zero, List.set_cons_succ]
  refine wpAnyH_ready (rs := [6]) (by kernel_rfl) (by simp) ?_
  refine AllReadyH.cons (o := { dst := none, op := _, type := _, pos := _, after := _, guard := _ }) rfl (fun K hK => ?_) AllReadyH.nil
  go_simp
  refine hK.out _ _ ⟨hcell s6 0, hcell s6 1, hcell s6 2⟩ (fun hHeld7 => ?_)
  clear hK K
  refine wpAnyH_done (by kernel_rfl) ?_ _
  have hpo := parts_otherG (unhide H7).at'.blk
  go_wp2_with fail
  go_ret
  have zz := (unhide HB6).size
  refine ⟨rfl, unhide H7, fun q hq hne => ?_, ?_, ?_, ?_, ?_⟩
  · rw [unhide HK7 q (fun e => hne (by rw [e]; exact unhide HOB))]
    exact (unhide HB6).block q hq
  · rw [(unhide HZ7).1]; exact zz
  · exact (unhide HZ7).2.1.trans (unhide HB6).os
  · exact (unhide HZ7).2.2.1.trans (unhide HB6).tape
  · exact (unhide HZ7).2.2.2.trans (unhide HB6).output

set_option maxRecDepth 100000 in
set_option maxHeartbeats 4000000 in
theorem set_val {B : Nat} {w : World} {hp mb : Nat} {P : PHp} {D : DataW Unit} {n : Nat} {vyo vyf voo vof vn : Value} (h : HpG B w hp mb P D n vyo vyf voo vof vn) {j k : Nat} {x : HO} (hx : P.Y[j]? = some x) (hk : k < x.fs.length) (v : HV) (hv : I64 v.n) (h4 : v.kind ≠ 4) :
    Calls Try.prog 9 #[.pointer (some ⟨hp, 0, none⟩), .int .i64 (P.fy + 2 * j), .int .i64 k, .agg #[.int .i64 v.kind, .int .i64 v.n, .string v.s]] w fun e w' => e = .returned .nilIface ∧ SetG B w hp mb P D n (beginAt P.Y j + k) v vyo vyf voo vof vn w' := by
  have H := hide h
  have HX := hide hx
  have HBA := hide (fun o => (Below.refl w.heap.size w).alloc (Nat.le_refl _) o)
  have q0 := neqNilG
  have hj := (List.getElem?_eq_some_iff.1 hx).1
  have ha : I64 (P.fy + 2 * j) := by
    have h1 := h.small.y0
    have h2 := h.small.y1
    exact ⟨by omega, by omega⟩
  have HJ := hide hj
  have HA := hide ha
  have HVI := hide hv
  have H4 := hide h4
  obtain ⟨u, hu⟩ : ∃ u, x.fs[k]? = some u := ⟨x.fs[k], List.getElem?_eq_getElem hk⟩
  have hget : getV (some (beginAt P.Y j, x)) k = .tuple #[.agg #[.int .i64 u.kind, .int .i64 u.n, .string u.s], .nilIface] := by simp [getV, hu]
  have HU := hide hu
  have hbl := begin_le hx
  have hk2 : (k : Int) < (x.fs.length : Int) := by omega
  clear h hx hj ha hv hu h4
  go_enter Try.func9, Try.ntmps9
  go_wp2_with fail
  refine (get_any ((unhide H).keep (unhide HBA _)).at' (unhide H).small (unhide H).few (unhide HA)).mono ?_
  rintro e w1 ⟨r, hr1, rfl, hb1⟩
  obtain rfl := found_young (unhide H).small (unhide HJ) hr1
  rw [objOf_young (unhide HX), hget]
  have HB1 := hide ((unhide HBA _).trans (hb1.mono (by simp)))
  have hv := (hb1.block w.heap.size (by simp)).trans (hnew w _)
  have v0 : ∀ o, (w1.alloc o).cell? ⟨w.heap.size, 0, none⟩ = some (.int .i64 v.kind) := cell_al (hcell hv 0)
  have v1 : ∀ o, (w1.alloc o).cell? ⟨w.heap.size, 1, none⟩ = some (.int .i64 v.n) := cell_al (hcell hv 1)
  have HB2 : Hid (∀ o, Below w.heap.size w (w1.alloc o)) := fun o => (unhide HB1).alloc (unhide HB1).size o
  have HV2 : Hid (∀ o, (w1.alloc o).heap[w.heap.size]? = _) := fun o => (Below.heap_alloc _ _ _ (hlt hv)).trans hv
  clear hb1 hv hr1 hget
  have h42 : (v.kind == 4) = false := by simpa using unhide H4
  go_wp2_with fail
  refine (find_any ((unhide H).keep (unhide HB2 _)).at' (unhide H).small (unhide HA)).mono ?_
  rintro e w4 ⟨r4, hr4, rfl, hb4⟩
  obtain rfl := found_young (unhide H).small (unhide HJ) hr4
  have HB4 := hide ((unhide HB2 _).trans (hb4.mono (unhide HB2 _).size))
  have HV4 := hide ((hb4.block w.heap.size (hlt (unhide HV2 _))).trans (unhide HV2 _))
  clear hb4 hr4 v0 v1
  simp only [foundV]
  go_wp2_with fail
  have HV5 : Hid (w4.drew.heap[w.heap.size]? = _) := unhide HV4
  have HB5 := hide (Below.drew (unhide HB4))
  refine wp_region_held_drew (S := (fun w' => w'.cell? ⟨w.heap.size, 0, none⟩ = some (.int .i64 v.kind) ∧ w'.cell? ⟨w.heap.size, 1, none⟩ = some (.int .i64 v.n) ∧ w'.cell? ⟨w.heap.size, 2, none⟩ = some (.string v.s))) (by kernel_rfl) ⟨hcell (unhide HV5) 0, hcell (unhide HV5) 1, hcell (unhide HV5) 2⟩ (fun hHeld => ?_)
  refine wpAnyH_take (i := 0) (oi := { dst := some 40, op := _, type := _, pos := _, after := _, guard := _ }) (v := ?_) rfl (by kernel_rfl) (by kernel_rfl) (by kernel_rfl) (fun _ _ _ h => h) (Or.inl ⟨by rfl, ?_⟩) (by assumption) ?_
  case refine_2 =>
    intro w hSw
    try dsimp only at hSw
    go_simp
    try with_reducible rfl
  simp only [Act.put, List.setIfInBounds_toArray, List.set_cons_zero, List.set_cons_succ]
  refine wpAnyH_take (i := 1) (oi := { dst := some 41, op := _, type := _, pos := _, after := _, guard := _ }) (v := ?_) rfl (by kernel_rfl) (by kernel_rfl) (by kernel_rfl) (fun _ _ _ h => h) (Or.inl ⟨by rfl, ?_⟩) (by assumption) ?_
  case refine_2 =>
    intro w hSw
    try dsimp only at hSw
    go_simp
    try with_reducible rfl
  simp only [Act.put, List.setIfInBounds_toArray, List.set_cons_zero, List.set_cons_succ]
  refine wpAnyH_take (i := 3) (oi := { dst := some 43, op := _, type := _, pos := _, after := _, guard := _ }) (v := ?_) rfl (by kernel_rfl) (by kernel_rfl) (by kernel_rfl) (fun _ _ _ h => h) (Or.inl ⟨by rfl, ?_⟩) (by assumption) ?_
  case refine_2 =>
    intro w hSw
    try dsimp only at hSw
    go_simp
    try with_reducible rfl
  simp only [Act.put, List.setIfInBounds_toArray, List.set_cons_zero, List.set_cons_succ]
  refine wpAnyH_take (i := 4) (oi := { dst := some 44, op := _, type := _, pos := _, after := _, guard := _ }) (v := ?_) rfl (by kernel_rfl) (by kernel_rfl) (by kernel_rfl) (fun _ _ _ h => h) (Or.inl ⟨by rfl, ?_⟩) (by assumption) ?_
  case refine_2 =>
    intro w hSw
    try dsimp only at hSw
    go_simp
    try with_reducible rfl
  simp only [Act.put, List.setIfInBounds_toArray, List.set_cons_zero, List.set_cons_succ]
  refine wpAnyH_ready (rs := [2]) (by kernel_rfl) (by simp) ?_
  refine AllReadyH.cons (o := { dst := some 42, op := _, type := _, pos := _, after := _, guard := _ }) rfl (fun K hK => ?_) AllReadyH.nil
  go_simp
  refine (has_any (((unhide H).keep (unhide HB5)).at'.young (unhide H).few) (unhide HX)).mono ?_
  rintro e w6 ⟨hb6, g', cap', rfl, hcap, hg⟩
  obtain ⟨g, cap, hvf, rfl, rfl⟩ := hg (by omega)
  have HB6 := hide ((unhide HB5).trans (hb6.mono (unhide HB5).size))
  have hv6 := (hb6.block w.heap.size (hlt (unhide HV5))).trans (unhide HV5)
  have H6 := hide ((unhide H).keep (unhide HB6))
  obtain ⟨z0, z1, z2⟩ := ((unhide H6).at'.young (unhide H).few).fld (unhide HX) (unhide HU) hvf
  have hob : vyf.ownBlock = some g := by rw [hvf]; rfl
  have hgl : g < w.heap.size := (owns_ty (unhide H).at'.yf hob).lt
  obtain ⟨gcs, gfr, hgb⟩ : ∃ cs fr, w6.heap[g]? = some (.cells cs 34 fr) := by
    obtain ⟨_, _, cs, q⟩ := owns_type (unhide H6).at'.yf g hob
    exact ⟨cs, _, q⟩
  obtain rfl : gfr = (0, 0) := by
    obtain ⟨_, _, cs, q⟩ := owns_type (unhide H6).at'.yf g hob
    rw [q] at hgb
    cases hgb
    rfl
  have y0 := hfroz hgb (beginAt P.Y j * 3 + k * 3)
  have y1 := hfroz hgb (beginAt P.Y j * 3 + k * 3 + 1)
  have y2 := hfroz hgb (beginAt P.Y j * 3 + k * 3 + 2)
  have H7 : Hid (HpG B (((w6.setCell ⟨g, beginAt P.Y j * 3 + k * 3, none⟩ (.int .i64 v.kind)).setCell ⟨g, beginAt P.Y j * 3 + k * 3 + 1, none⟩ (.int .i64 v.n)).setCell ⟨g, beginAt P.Y j * 3 + k * 3 + 2, none⟩ (.string v.s)) hp mb { P with Y := setF P.Y (beginAt P.Y j + k) v } D n vyo vyf voo vof vn) := by
    have q := (unhide H6).fieldSet hvf (i := beginAt P.Y j + k) (by omega) v (unhide HVI)
    rw [show (beginAt P.Y j + k) * 3 = beginAt P.Y j * 3 + k * 3 by omega] at q
    exact q
  have s6 : (((w6.setCell ⟨g, beginAt P.Y j * 3 + k * 3, none⟩ (.int .i64 v.kind)).setCell ⟨g, beginAt P.Y j * 3 + k * 3 + 1, none⟩ (.int .i64 v.n)).setCell ⟨g, beginAt P.Y j * 3 + k * 3 + 2, none⟩ (.string v.s)).heap[w.heap.size]? = _ := (hother _ (by omega)).trans ((hother _ (by omega)).trans ((hother _ (by omega)).trans hv6))
  have HK7 : Hid (∀ q, q ≠ g → (((w6.setCell ⟨g, beginAt P.Y j * 3 + k * 3, none⟩ (.int .i64 v.kind)).setCell ⟨g, beginAt P.Y j * 3 + k * 3 + 1, none⟩ (.int .i64 v.n)).setCell ⟨g, beginAt P.Y j * 3 + k * 3 + 2, none⟩ (.string v.s)).heap[q]? = w6.heap[q]?) := fun q hq => by rw [hother _ hq, hother _ hq, hother _ hq]
  have HZ7 : Hid ((((w6.setCell ⟨g, beginAt P.Y j * 3 + k * 3, none⟩ (.int .i64 v.kind)).setCell ⟨g, beginAt P.Y j * 3 + k * 3 + 1, none⟩ (.int .i64 v.n)).setCell ⟨g, beginAt P.Y j * 3 + k * 3 + 2, none⟩ (.string v.s)).heap.size = w6.heap.size ∧ (((w6.setCell ⟨g, beginAt P.Y j * 3 + k * 3, none⟩ (.int .i64 v.kind)).setCell ⟨g, beginAt P.Y j * 3 + k * 3 + 1, none⟩ (.int .i64 v.n)).setCell ⟨g, beginAt P.Y j * 3 + k * 3 + 2, none⟩ (.string v.s)).os = w6.os ∧ (((w6.setCell ⟨g, beginAt P.Y j * 3 + k * 3, none⟩ (.int .i64 v.kind)).setCell ⟨g, beginAt P.Y j * 3 + k * 3 + 1, none⟩ (.int .i64 v.n)).setCell ⟨g, beginAt P.Y j * 3 + k * 3 + 2, none⟩ (.string v.s)).tape = w6.tape ∧ (((w6.setCell ⟨g, beginAt P.Y j * 3 + k * 3, none⟩ (.int .i64 v.kind)).setCell ⟨g, beginAt P.Y j * 3 + k * 3 + 1, none⟩ (.int .i64 v.n)).setCell ⟨g, beginAt P.Y j * 3 + k * 3 + 2, none⟩ (.string v.s)).output = w6.output) := ⟨by simp [World.setCell], rfl, rfl, rfl⟩
  have HOB := hide hob
  clear hb6 hgb hg hcap hvf hob
  refine hK.out _ _ ⟨hcell hv6 0, hcell hv6 1, hcell hv6 2⟩ (fun hHeld6 => ?_)
  clear hK K hv6
  refine wpAnyH_take (i := 5) (oi := { dst := some 45, op := _, type := _, pos := _, after := _, guard := _ }) (v := ?_) rfl (by kernel_rfl) (by kernel_rfl) (by kernel_rfl) (fun _ _ _ h => h) (Or.inl ⟨by rfl, ?_⟩) (by assumption) ?_
  case refine_2 =>
    intro w hSw
    try dsimp only at hSw
    go_simp
    try with_reducible rfl
  simp only [Act.put, List.setIfInBounds_toArray, List.set_cons_zero, List.set_cons_succ]
  refine wpAnyH_ready (rs := [6]) (by kernel_rfl) (by simp) ?_
  refine AllReadyH.cons (o := { dst := none, op := _, type := _, pos := _, after := _, guard := _ }) rfl (fun K hK => ?_) AllReadyH.nil
  go_simp
  refine hK.out _ _ ⟨hcell s6 0, hcell s6 1, hcell s6 2⟩ (fun hHeld7 => ?_)
  clear hK K
  refine wpAnyH_done (by kernel_rfl) ?_ _
  have hpo := parts_otherG (unhide H7).at'.blk
  go_wp2_with fail
  go_ret
  have zz := (unhide HB6).size
  refine ⟨rfl, unhide H7, fun q hq hne => ?_, ?_, ?_, ?_, ?_⟩
  · rw [unhide HK7 q (fun e => hne (by rw [e]; exact unhide HOB))]
    exact (unhide HB6).block q hq
  · rw [(unhide HZ7).1]; exact zz
  · exact (unhide HZ7).2.1.trans (unhide HB6).os
  · exact (unhide HZ7).2.2.1.trans (unhide HB6).tape
  · exact (unhide HZ7).2.2.2.trans (unhide HB6).output
end Go.Proofs.Ytddfdefgdlfpmaa
