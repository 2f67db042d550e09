/-
  Get, in general.
  How many cells are in use; addresses; in general.
  A heap with one object is read.
-/
import Derived.Test.YtddfdefgdlfpmaaM04
namespace Go.Proofs.Ytddfdefgdlfpmaa
open Go.RowKit

def zeroV : Value := .agg #[.int .i64 0, .int .i64 0, .string ⟨#[]⟩]
def errV (n : Int) : Value := .iface 45 (.int .i64 n)
def getV (o : Option (Nat × HO)) (i : Int) : Value := match o with
  | none => .tuple #[zeroV, errV 7]
  | some (_, x) => if 0 ≤ i then (match x.fs[i.toNat]? with
    | some v => .tuple #[.agg #[.int .i64 v.kind, .int .i64 v.n, .string v.s], .nilIface]
    | none => .tuple #[zeroV, errV 2]) else .tuple #[zeroV, errV 2]
def GetPost (P : PHp) (a i : Int) (w : World) (e : Ending) (w' : World) : Prop := ∃ r, Found P a r ∧ e = .returned (getV (objOf P r) i) ∧ Below w.heap.size w w'
/-- A field's cells. -/
theorem PtAt.fld {B : Nat} {w : World} {b o : Nat} {l : List HO} {vo vf : Value} (h : PtAt B w b o l vo vf) {i : Nat} {x : HO} (hx : l[i]? = some x) {k : Nat} {v : HV} (hv : x.fs[k]? = some v) {g cap : Nat} (e : vf = .slice (some ⟨g, 0, none⟩) (allF l).length cap) :
    w.cell? ⟨g, beginAt l i * 3 + k * 3, none⟩ = some (.int .i64 v.kind) ∧ w.cell? ⟨g, beginAt l i * 3 + k * 3 + 1, none⟩ = some (.int .i64 v.n) ∧ w.cell? ⟨g, beginAt l i * 3 + k * 3 + 2, none⟩ = some (.string v.s) := by
  have hk := (List.getElem?_eq_some_iff.1 hv).1
  have hb := begin_le hx
  have hg : (allF l)[beginAt l i + k]? = some v := (allF_get hx hk).trans hv
  have key : ∀ j, j < 3 → w.cell? ⟨g, beginAt l i * 3 + k * 3 + j, none⟩ = (vCells v)[j]? := fun j hj => by
    obtain ⟨g', cap', e2, _, hc, _⟩ := owns_get h.flds (j := beginAt l i * 3 + k * 3 + j) (by omega)
    rw [e] at e2
    cases e2
    rw [hc, rowF, show beginAt l i * 3 + k * 3 + j = (beginAt l i + k) * 3 + j by omega, vals_get hg hj]
  exact ⟨key 0 (by omega), key 1 (by omega), key 2 (by omega)⟩

set_option maxRecDepth 100000 in
set_option maxHeartbeats 4000000 in
theorem get_any {B : Nat} {w : World} {h mb : Nat} {P : PHp} {vyo vyf voo vof vn : Value} (k : HpAt B w h mb P vyo vyf voo vof vn) (hs : Small P) (hfw : Few P) {a i : Int} (ha : I64 a) :
    Calls Try.prog 15 #[.pointer (some ⟨h, 0, none⟩), .int .i64 a, .int .i64 i] w fun e w' => GetPost P a i w e w' := by
  have K := hide k
  have HS := hide hs
  have HFW := hide hfw
  have HBA := hide (fun o => (Below.refl w.heap.size w).alloc (Nat.le_refl _) o)
  clear k hs hfw
  go_enter Try.func15, Try.ntmps15
  go_wp2_with fail
  refine (find_any ((unhide K).keep (unhide HBA _)) (unhide HS) ha).mono ?_
  rintro e W0 ⟨r, hr, rfl, hb0⟩
  have HK0 := hide ((hb0.block w.heap.size (by simp)).trans (hnew w _))
  have HB0 := hide ((unhide HBA _).trans (hb0.mono (by simp)))
  clear hb0 ha
  cases r, hr using Found.parts with
  | young j hi he =>
    obtain ⟨x, hx⟩ : ∃ x, P.Y[j]? = some x := ⟨P.Y[j], List.getElem?_eq_getElem hi⟩
    have HF := hide (show Found P a (some (true, j)) from .young j hi he)
    have HX := hide hx
    clear hi he hx
    simp only [foundV]
    go_wp2_with fail
    refine (has_any (((unhide K).keep (unhide HB0)).young (unhide HFW)) (unhide HX)).mono ?_
    rintro e W1 ⟨hb1, g', cap', rfl, hcap, hg⟩
    have HB := hide ((unhide HB0).trans (hb1.mono (unhide HB0).size))
    have hk := (hb1.block w.heap.size (hlt (unhide HK0))).trans (unhide HK0)
    have k0 := hcell hk 0
    have f0 := hfroz hk 0
    have k1 := hcell hk 1
    have f1 := hfroz hk 1
    have k2 := hcell hk 2
    have f2 := hfroz hk 2
    have HK := hide hk
    have HG := hide hg
    clear hb1 hk hg
    by_cases h0 : i < 0
    · have HN := hide h0
      go_wp2_with fail
      have hz := (hset (hset (hset (unhide HK) 0 (.int .i64 0)) 1 (.int .i64 0)) 2 (.string ⟨#[]⟩))
      have HBZ := ((((unhide HB).setCell (p := ⟨w.heap.size, 0, none⟩) (Nat.le_refl _) (.int .i64 0)).setCell (p := ⟨w.heap.size, 1, none⟩) (Nat.le_refl _) (.int .i64 0)).setCell (p := ⟨w.heap.size, 2, none⟩) (Nat.le_refl _) (.string ⟨#[]⟩))
      generalize (((W1.setCell ⟨w.heap.size, 0, none⟩ (.int .i64 0)).setCell ⟨w.heap.size, 1, none⟩ (.int .i64 0)).setCell ⟨w.heap.size, 2, none⟩ (.string ⟨#[]⟩)) = wz at *
      have z0 := hcell hz 0
      have z1 := hcell hz 1
      have z2 := hcell hz 2
      clear hz k0 k1 k2 f0 f1 f2
      exact bodyPost_ret (v := .tuple #[.agg #[.int .i64 0, .int .i64 0, .string ⟨#[]⟩], .iface 45 (.int .i64 2)]) (by simp [results, Try.results15, go_sem, z0, z1, z2]) rfl ⟨_, unhide HF, by simp [objOf, unhide HX, getV, zeroV, errV]; intro hh; have := unhide HN; omega, HBZ⟩
    · obtain ⟨k, rfl⟩ := Int.eq_ofNat_of_zero_le (show 0 ≤ i by omega)
      by_cases h1 : k < x.fs.length
      · have h1' : ¬ (x.fs.length : Int) ≤ (k : Int) := by omega
        have h1'' : (k : Int) < (x.fs.length : Int) := by omega
        obtain ⟨v, hv⟩ : ∃ v, x.fs[k]? = some v := ⟨x.fs[k], List.getElem?_eq_getElem h1⟩
        obtain ⟨g, cap, hvf, rfl, rfl⟩ := (unhide HG) (by omega)
        obtain ⟨a0, a1, a2⟩ := (((unhide K).keep (unhide HB)).young (unhide HFW)).fld (unhide HX) hv hvf
        have HV := hide hv
        clear hv hvf
        go_wp2_with fail
        have hz := (hset (hset (hset (unhide HK) 0 (.int .i64 v.kind)) 1 (.int .i64 v.n)) 2 (.string v.s))
        have HBZ := ((((unhide HB).setCell (p := ⟨w.heap.size, 0, none⟩) (Nat.le_refl _) (.int .i64 v.kind)).setCell (p := ⟨w.heap.size, 1, none⟩) (Nat.le_refl _) (.int .i64 v.n)).setCell (p := ⟨w.heap.size, 2, none⟩) (Nat.le_refl _) (.string v.s))
        generalize (((W1.setCell ⟨w.heap.size, 0, none⟩ (.int .i64 v.kind)).setCell ⟨w.heap.size, 1, none⟩ (.int .i64 v.n)).setCell ⟨w.heap.size, 2, none⟩ (.string v.s)) = wz at *
        have z0 := hcell hz 0
        have z1 := hcell hz 1
        have z2 := hcell hz 2
        clear hz k0 k1 k2 f0 f1 f2
        exact bodyPost_ret (v := .tuple #[.agg #[.int .i64 v.kind, .int .i64 v.n, .string v.s], .nilIface]) (by simp [results, Try.results15, go_sem, z0, z1, z2]) rfl ⟨_, unhide HF, by simp [objOf, unhide HX, getV, unhide HV], HBZ⟩
      · have h1' : (x.fs.length : Int) ≤ (k : Int) := by omega
        have HN := hide (show x.fs[k]? = none from List.getElem?_eq_none (by omega))
        go_wp2_with fail
        have hz := (hset (hset (hset (unhide HK) 0 (.int .i64 0)) 1 (.int .i64 0)) 2 (.string ⟨#[]⟩))
        have HBZ := ((((unhide HB).setCell (p := ⟨w.heap.size, 0, none⟩) (Nat.le_refl _) (.int .i64 0)).setCell (p := ⟨w.heap.size, 1, none⟩) (Nat.le_refl _) (.int .i64 0)).setCell (p := ⟨w.heap.size, 2, none⟩) (Nat.le_refl _) (.string ⟨#[]⟩))
        generalize (((W1.setCell ⟨w.heap.size, 0, none⟩ (.int .i64 0)).setCell ⟨w.heap.size, 1, none⟩ (.int .i64 0)).setCell ⟨w.heap.size, 2, none⟩ (.string ⟨#[]⟩)) = wz at *
        have z0 := hcell hz 0
        have z1 := hcell hz 1
        have z2 := hcell hz 2
        clear hz k0 k1 k2 f0 f1 f2
        exact bodyPost_ret (v := .tuple #[.agg #[.int .i64 0, .int .i64 0, .string ⟨#[]⟩], .iface 45 (.int .i64 2)]) (by simp [results, Try.results15, go_sem, z0, z1, z2]) rfl ⟨_, unhide HF, by simp [objOf, unhide HX, getV, unhide HN, zeroV, errV], HBZ⟩
  | old j hi he =>
    obtain ⟨x, hx⟩ : ∃ x, P.O[j]? = some x := ⟨P.O[j], List.getElem?_eq_getElem hi⟩
    have HF := hide (show Found P a (some (false, j)) from .old j hi he)
    have HX := hide hx
    clear hi he hx
    simp only [foundV]
    go_wp2_with fail
    refine (has_any (((unhide K).keep (unhide HB0)).old (unhide HFW)) (unhide HX)).mono ?_
    rintro e W1 ⟨hb1, g', cap', rfl, hcap, hg⟩
    have HB := hide ((unhide HB0).trans (hb1.mono (unhide HB0).size))
    have hk := (hb1.block w.heap.size (hlt (unhide HK0))).trans (unhide HK0)
    have k0 := hcell hk 0
    have f0 := hfroz hk 0
    have k1 := hcell hk 1
    have f1 := hfroz hk 1
    have k2 := hcell hk 2
    have f2 := hfroz hk 2
    have HK := hide hk
    have HG := hide hg
    clear hb1 hk hg
    by_cases h0 : i < 0
    · have HN := hide h0
      go_wp2_with fail
      have hz := (hset (hset (hset (unhide HK) 0 (.int .i64 0)) 1 (.int .i64 0)) 2 (.string ⟨#[]⟩))
      have HBZ := ((((unhide HB).setCell (p := ⟨w.heap.size, 0, none⟩) (Nat.le_refl _) (.int .i64 0)).setCell (p := ⟨w.heap.size, 1, none⟩) (Nat.le_refl _) (.int .i64 0)).setCell (p := ⟨w.heap.size, 2, none⟩) (Nat.le_refl _) (.string ⟨#[]⟩))
      generalize (((W1.setCell ⟨w.heap.size, 0, none⟩ (.int .i64 0)).setCell ⟨w.heap.size, 1, none⟩ (.int .i64 0)).setCell ⟨w.heap.size, 2, none⟩ (.string ⟨#[]⟩)) = wz at *
      have z0 := hcell hz 0
      have z1 := hcell hz 1
      have z2 := hcell hz 2
      clear hz k0 k1 k2 f0 f1 f2
      exact bodyPost_ret (v := .tuple #[.agg #[.int .i64 0, .int .i64 0, .string ⟨#[]⟩], .iface 45 (.int .i64 2)]) (by simp [results, Try.results15, go_sem, z0, z1, z2]) rfl ⟨_, unhide HF, by simp [objOf, unhide HX, getV, zeroV, errV]; intro hh; have := unhide HN; omega, HBZ⟩
    · obtain ⟨k, rfl⟩ := Int.eq_ofNat_of_zero_le (show 0 ≤ i by omega)
      by_cases h1 : k < x.fs.length
      · have h1' : ¬ (x.fs.length : Int) ≤ (k : Int) := by omega
        have h1'' : (k : Int) < (x.fs.length : Int) := by omega
        obtain ⟨v, hv⟩ : ∃ v, x.fs[k]? = some v := ⟨x.fs[k], List.getElem?_eq_getElem h1⟩
        obtain ⟨g, cap, hvf, rfl, rfl⟩ := (unhide HG) (by omega)
        obtain ⟨a0, a1, a2⟩ := (((unhide K).keep (unhide HB)).old (unhide HFW)).fld (unhide HX) hv hvf
        have HV := hide hv
        clear hv hvf
        go_wp2_with fail
        have hz := (hset (hset (hset (unhide HK) 0 (.int .i64 v.kind)) 1 (.int .i64 v.n)) 2 (.string v.s))
        have HBZ := ((((unhide HB).setCell (p := ⟨w.heap.size, 0, none⟩) (Nat.le_refl _) (.int .i64 v.kind)).setCell (p := ⟨w.heap.size, 1, none⟩) (Nat.le_refl _) (.int .i64 v.n)).setCell (p := ⟨w.heap.size, 2, none⟩) (Nat.le_refl _) (.string v.s))
        generalize (((W1.setCell ⟨w.heap.size, 0, none⟩ (.int .i64 v.kind)).setCell ⟨w.heap.size, 1, none⟩ (.int .i64 v.n)).setCell ⟨w.heap.size, 2, none⟩ (.string v.s)) = wz at *
        have z0 := hcell hz 0
        have z1 := hcell hz 1
        have z2 := hcell hz 2
        clear hz k0 k1 k2 f0 f1 f2
        exact bodyPost_ret (v := .tuple #[.agg #[.int .i64 v.kind, .int .i64 v.n, .string v.s], .nilIface]) (by simp [results, Try.results15, go_sem, z0, z1, z2]) rfl ⟨_, unhide HF, by simp [objOf, unhide HX, getV, unhide HV], HBZ⟩
      · have h1' : (x.fs.length : Int) ≤ (k : Int) := by omega
        have HN := hide (show x.fs[k]? = none from List.getElem?_eq_none (by omega))
        go_wp2_with fail
        have hz := (hset (hset (hset (unhide HK) 0 (.int .i64 0)) 1 (.int .i64 0)) 2 (.string ⟨#[]⟩))
        have HBZ := ((((unhide HB).setCell (p := ⟨w.heap.size, 0, none⟩) (Nat.le_refl _) (.int .i64 0)).setCell (p := ⟨w.heap.size, 1, none⟩) (Nat.le_refl _) (.int .i64 0)).setCell (p := ⟨w.heap.size, 2, none⟩) (Nat.le_refl _) (.string ⟨#[]⟩))
        generalize (((W1.setCell ⟨w.heap.size, 0, none⟩ (.int .i64 0)).setCell ⟨w.heap.size, 1, none⟩ (.int .i64 0)).setCell ⟨w.heap.size, 2, none⟩ (.string ⟨#[]⟩)) = wz at *
        have z0 := hcell hz 0
        have z1 := hcell hz 1
        have z2 := hcell hz 2
        clear hz k0 k1 k2 f0 f1 f2
        exact bodyPost_ret (v := .tuple #[.agg #[.int .i64 0, .int .i64 0, .string ⟨#[]⟩], .iface 45 (.int .i64 2)]) (by simp [results, Try.results15, go_sem, z0, z1, z2]) rfl ⟨_, unhide HF, by simp [objOf, unhide HX, getV, unhide HN, zeroV, errV], HBZ⟩
  | none hy ho =>
    have HF := hide (show Found P a none from .none hy ho)
    have hk := unhide HK0
    have k0 := hcell hk 0
    have f0 := hfroz hk 0
    have k1 := hcell hk 1
    have f1 := hfroz hk 1
    have k2 := hcell hk 2
    have f2 := hfroz hk 2
    have HK := hide hk
    have HB := hide (unhide HB0)
    clear hy ho hk
    simp only [foundV]
    rename World => W1
    go_wp2_with fail
    have hz := (hset (hset (hset (unhide HK) 0 (.int .i64 0)) 1 (.int .i64 0)) 2 (.string ⟨#[]⟩))
    have HBZ := ((((unhide HB).setCell (p := ⟨w.heap.size, 0, none⟩) (Nat.le_refl _) (.int .i64 0)).setCell (p := ⟨w.heap.size, 1, none⟩) (Nat.le_refl _) (.int .i64 0)).setCell (p := ⟨w.heap.size, 2, none⟩) (Nat.le_refl _) (.string ⟨#[]⟩))
    generalize (((W1.setCell ⟨w.heap.size, 0, none⟩ (.int .i64 0)).setCell ⟨w.heap.size, 1, none⟩ (.int .i64 0)).setCell ⟨w.heap.size, 2, none⟩ (.string ⟨#[]⟩)) = wz at *
    have z0 := hcell hz 0
    have z1 := hcell hz 1
    have z2 := hcell hz 2
    clear hz k0 k1 k2 f0 f1 f2
    exact bodyPost_ret (v := .tuple #[.agg #[.int .i64 0, .int .i64 0, .string ⟨#[]⟩], .iface 45 (.int .i64 7)]) (by simp [results, Try.results15, go_sem, z0, z1, z2]) rfl ⟨_, unhide HF, by simp [objOf, getV, zeroV, errV], HBZ⟩
end Go.Proofs.Ytddfdefgdlfpmaa

namespace Go.Proofs.Ytddfdefgdlfpmaa
open Go.RowKit

set_option maxRecDepth 100000 in
set_option maxHeartbeats 4000000 in
theorem cells_any {B : Nat} {w : World} {b o : Nat} {l : List HO} {vo vf : Value} (h : PtAt B w b o l vo vf) (hn : l.length ≤ 10000000) :
    Calls Try.prog 17 #[.pointer (some ⟨b, o, none⟩)] w fun e w' => e = .returned (.int .i64 (l.length + (allF l).length : Nat)) ∧ Below w.heap.size w w' := by
  obtain ⟨go, co, rfl⟩ := owns_form h.objs
  obtain ⟨gf, cf, rfl⟩ := owns_form h.flds
  have k1 := h.c1
  have k2 := h.c2
  have wr : IntKind.i64.wrap ((l.length : Int) + ((allF l).length : Int)) = (l.length : Int) + ((allF l).length : Int) := by have := h.few; exact wrap_id (by omega) (by omega)
  clear h hn
  go_enter Try.func17, Try.ntmps17
  go_wp2_with fail
  refine wp_region_held_drew (S := (fun w' => w'.cell? ⟨b, o + 1, none⟩ = some (.slice go l.length co) ∧ w'.cell? ⟨b, o + 2, none⟩ = some (.slice gf (allF l).length cf))) (by kernel_rfl) ⟨k1, k2⟩ (fun hHeld => ?_)
  refine wpAnyH_take (i := 0) (oi := { dst := some 3, op := _, type := _, pos := _, after := _, guard := _ }) (v := ?_) rfl (by kernel_rfl) (by kernel_rfl) (by kernel_rfl) (fun _ _ _ h => h) (Or.inl ⟨by rfl, ?_⟩) (by assumption) ?_
  case refine_2 =>
    intro w hSw
    try dsimp only at hSw
    go_simp
    try with_reducible rfl
  simp only [Act.put, List.setIfInBounds_toArray, List.set_cons_zero, List.set_cons_succ]
  refine wpAnyH_take (i := 1) (oi := { dst := some 4, op := _, type := _, pos := _, after := _, guard := _ }) (v := ?_) rfl (by kernel_rfl) (by kernel_rfl) (by kernel_rfl) (fun _ _ _ h => h) (Or.inl ⟨by rfl, ?_⟩) (by assumption) ?_
  case refine_2 =>
    intro w hSw
    try dsimp only at hSw
    go_simp
    try with_reducible rfl
  simp only [Act.put, List.setIfInBounds_toArray, List.set_cons_zero, List.set_cons_succ]
  refine wpAnyH_take (i := 2) (oi := { dst := some 5, op := _, type := _, pos := _, after := _, guard := _ }) (v := ?_) rfl (by kernel_rfl) (by kernel_rfl) (by kernel_rfl) (fun _ _ _ h => h) (Or.inl ⟨by rfl, ?_⟩) (by assumption) ?_
  case refine_2 =>
    intro w hSw
    try dsimp only at hSw
    go_simp
    try with_reducible rfl
  simp only [Act.put, List.setIfInBounds_toArray, List.set_cons_zero, List.set_cons_succ]
  refine wpAnyH_take (i := 3) (oi := { dst := some 6, op := _, type := _, pos := _, after := _, guard := _ }) (v := ?_) rfl (by kernel_rfl) (by kernel_rfl) (by kernel_rfl) (fun _ _ _ h => h) (Or.inl ⟨by rfl, ?_⟩) (by assumption) ?_
  case refine_2 =>
    intro w hSw
    try dsimp only at hSw
    go_simp
    try with_reducible rfl
  simp only [Act.put, List.setIfInBounds_toArray, List.set_cons_zero, List.set_cons_succ]
  refine wpAnyH_take (i := 4) (oi := { dst := some 7, op := _, type := _, pos := _, after := _, guard := _ }) (v := ?_) rfl (by kernel_rfl) (by kernel_rfl) (by kernel_rfl) (fun _ _ _ h => h) (Or.inl ⟨by rfl, ?_⟩) (by assumption) ?_
  case refine_2 =>
    intro w hSw
    try dsimp only at hSw
    go_simp
    try with_reducible rfl
  simp only [Act.put, List.setIfInBounds_toArray, List.set_cons_zero, List.set_cons_succ]
  refine wpAnyH_take (i := 5) (oi := { dst := some 8, op := _, type := _, pos := _, after := _, guard := _ }) (v := ?_) rfl (by kernel_rfl) (by kernel_rfl) (by kernel_rfl) (fun _ _ _ h => h) (Or.inl ⟨by rfl, ?_⟩) (by assumption) ?_
  case refine_2 =>
    intro w hSw
    try dsimp only at hSw
    go_simp
    try with_reducible rfl
  simp only [Act.put, List.setIfInBounds_toArray, List.set_cons_zero, List.set_cons_succ]
  refine wpAnyH_take (i := 6) (oi := { dst := some 9, op := _, type := _, pos := _, after := _, guard := _ }) (v := ?_) rfl (by kernel_rfl) (by kernel_rfl) (by kernel_rfl) (fun _ _ _ h => h) (Or.inl ⟨by rfl, ?_⟩) (by assumption) ?_
  case refine_2 =>
    intro w hSw
    try dsimp only at hSw
    go_simp
    try with_reducible rfl
  simp only [Act.put, List.setIfInBounds_toArray, List.set_cons_zero, List.set_cons_succ]
  refine wpAnyH_take (i := 7) (oi := { dst := some 10, op := _, type := _, pos := _, after := _, guard := _ }) (v := ?_) rfl (by kernel_rfl) (by kernel_rfl) (by kernel_rfl) (fun _ _ _ h => h) (Or.inl ⟨by rfl, ?_⟩) (by assumption) ?_
  case refine_2 =>
    intro w hSw
    try dsimp only at hSw
    go_simp
    try with_reducible rfl
  simp only [Act.put, List.setIfInBounds_toArray, List.set_cons_zero, List.set_cons_succ]
  refine wpAnyH_take (i := 8) (oi := { dst := some 11, op := _, type := _, pos := _, after := _, guard := _ }) (v := ?_) rfl (by kernel_rfl) (by kernel_rfl) (by kernel_rfl) (fun _ _ _ h => h) (Or.inl ⟨by rfl, ?_⟩) (by assumption) ?_
  case refine_2 =>
    intro w hSw
    try dsimp only at hSw
    go_simp
    try with_reducible rfl
  simp only [Act.put, List.setIfInBounds_toArray, List.set_cons_zero, List.set_cons_succ]
  refine wpAnyH_take (i := 9) (oi := { dst := some 12, op := _, type := _, pos := _, after := _, guard := _ }) (v := ?_) rfl (by kernel_rfl) (by kernel_rfl) (by kernel_rfl) (fun _ _ _ h => h) (Or.inl ⟨by rfl, ?_⟩) (by assumption) ?_
  case refine_2 =>
    intro w hSw
    try dsimp only at hSw
    go_simp
    try with_reducible rfl
  simp only [Act.put, List.setIfInBounds_toArray, List.set_cons_zero, List.set_cons_succ]
  refine wpAnyH_take (i := 10) (oi := { dst := some 13, op := _, type := _, pos := _, after := _, guard := _ }) (v := ?_) rfl (by kernel_rfl) (by kernel_rfl) (by kernel_rfl) (fun _ _ _ h => h) (Or.inl ⟨by rfl, ?_⟩) (by assumption) ?_
  case refine_2 =>
    intro w hSw
    try dsimp only at hSw
    go_simp
    try with_reducible rfl
  simp only [Act.put, List.setIfInBounds_toArray, List.set_cons_zero, List.set_cons_succ]
  refine wpAnyH_take (i := 11) (oi := { dst := some 2, op := _, type := _, pos := _, after := _, guard := _ }) (v := ?_) rfl (by kernel_rfl) (by kernel_rfl) (by kernel_rfl) (fun _ _ _ h => h) (Or.inl ⟨by rfl, ?_⟩) (by assumption) ?_
  case refine_2 =>
    intro w hSw
    try dsimp only at hSw
    go_simp
    try with_reducible rfl
  simp only [Act.put, List.setIfInBounds_toArray, List.set_cons_zero, List.set_cons_succ]
  refine wpAnyH_done (by kernel_rfl) ?_ _
  go_wp2_with fail
  go_ret
  exact ⟨by simp, Below.drew (Below.refl _ _)⟩

set_option maxRecDepth 100000 in
set_option maxHeartbeats 4000000 in
theorem address_any {w : World} {b o : Nat} {f : Int} (h0 : w.cell? ⟨b, o, none⟩ = some (.int .i64 f)) {i : Nat} (hf : 0 ≤ f) (hs : f + 2 * i ≤ 4611686018427387904) :
    Calls Try.prog 34 #[.pointer (some ⟨b, o, none⟩), .int .i64 i] w fun e w' => e = .returned (.int .i64 (f + 2 * i)) ∧ w' = w := by
  have w1 : IntKind.i64.wrap (2 * (i : Int)) = 2 * (i : Int) := wrap_id (by omega) (by omega)
  have w2 : IntKind.i64.wrap (f + 2 * (i : Int)) = f + 2 * (i : Int) := wrap_id (by omega) (by omega)
  clear hf hs
  go_enter Try.func34, Try.ntmps34
  go_wp2_with fail
  go_ret
  exact ⟨rfl, rfl⟩
end Go.Proofs.Ytddfdefgdlfpmaa

namespace Go.Proofs.Ytddfdefgdlfpmaa
open Go.RowKit

abbrev sv (g c n : Nat) : Value := .slice (some ⟨g, 0, none⟩) n c
/-- The one object, a list of two fields. -/
structure Ob (w : World) (og co fg cf : Nat) (x0 x1 : Int) : Prop where
  o : ∃ cur, w.heap[og]? = some (.cells cur 56 (0, 0)) ∧ cur[0]? = some (.int .i64 2) ∧ cur[1]? = some (.int .i64 7) ∧ cur[2]? = some (.int .i64 1) ∧ cur[3]? = some (.int .i64 0) ∧ cur[4]? = some (.int .i64 2) ∧ cur[5]? = some (.bool false)
  f : ∃ cur, w.heap[fg]? = some (.cells cur 34 (0, 0)) ∧ cur[0]? = some (.int .i64 x0) ∧ cur[1]? = some (.int .i64 x1) ∧ cur[2]? = some (.string ⟨#[]⟩) ∧ cur[3]? = some (.int .i64 0) ∧ cur[4]? = some (.int .i64 0) ∧ cur[5]? = some (.string ⟨#[]⟩)
  co1 : 1 ≤ co
  cf2 : 2 ≤ cf
  ne : og ≠ fg
theorem Ob.keep {w w' : World} {og co fg cf : Nat} {x0 x1 : Int} (k : Ob w og co fg cf x0 x1) (hb : Below w.heap.size w w') : Ob w' og co fg cf x0 x1 := by
  obtain ⟨⟨c, h1, h2⟩, ⟨d, h3, h4⟩, h5, h6, h7⟩ := k
  exact ⟨⟨c, (hb.block _ (hlt h1)).trans h1, h2⟩, ⟨d, (hb.block _ (hlt h3)).trans h3, h4⟩, h5, h6, h7⟩
theorem Ob.oc {w : World} {og co fg cf : Nat} {x0 x1 : Int} (k : Ob w og co fg cf x0 x1) : w.cell? ⟨og, 0, none⟩ = some (.int .i64 2) ∧ w.cell? ⟨og, 1, none⟩ = some (.int .i64 7) ∧ w.cell? ⟨og, 2, none⟩ = some (.int .i64 1) ∧ w.cell? ⟨og, 3, none⟩ = some (.int .i64 0) ∧ w.cell? ⟨og, 4, none⟩ = some (.int .i64 2) ∧ w.cell? ⟨og, 5, none⟩ = some (.bool false) := by
  obtain ⟨c, h1, h2, h3, h4, h5, h6, h7⟩ := k.o
  exact ⟨(hcell h1 0).trans h2, (hcell h1 1).trans h3, (hcell h1 2).trans h4, (hcell h1 3).trans h5, (hcell h1 4).trans h6, (hcell h1 5).trans h7⟩
theorem Ob.fc {w : World} {og co fg cf : Nat} {x0 x1 : Int} (k : Ob w og co fg cf x0 x1) : w.cell? ⟨fg, 0, none⟩ = some (.int .i64 x0) ∧ w.cell? ⟨fg, 1, none⟩ = some (.int .i64 x1) ∧ w.cell? ⟨fg, 2, none⟩ = some (.string ⟨#[]⟩) ∧ w.cell? ⟨fg, 3, none⟩ = some (.int .i64 0) ∧ w.cell? ⟨fg, 4, none⟩ = some (.int .i64 0) ∧ w.cell? ⟨fg, 5, none⟩ = some (.string ⟨#[]⟩) := by
  obtain ⟨c, h1, h2, h3, h4, h5, h6, h7⟩ := k.f
  exact ⟨(hcell h1 0).trans h2, (hcell h1 1).trans h3, (hcell h1 2).trans h4, (hcell h1 3).trans h5, (hcell h1 4).trans h6, (hcell h1 5).trans h7⟩

set_option maxRecDepth 100000 in
set_option maxHeartbeats 2000000 in
/-- Its fields. -/
theorem has_first {w : World} {h mb og co fg cf : Nat} {x0 x1 last : Int} (k : Hp w h mb (sv og co 1) (sv fg cf 2) last) (ko : Ob w og co fg cf x0 x1) :
    Calls Try.prog 22 #[.pointer (some ⟨h, 0, none⟩), .int .i64 0] w fun e w' => e = .returned (sv fg cf 2) ∧ Below w.heap.size w w' := by
  obtain ⟨a0, a1, a2, a3, a4, a5⟩ := ko.oc
  have k1 : w.cell? ⟨h, 1, none⟩ = some (sv og co 1) := hcell k.blk 1
  have k2 : w.cell? ⟨h, 2, none⟩ = some (sv fg cf 2) := hcell k.blk 2
  have c1 := ko.co1
  have c2 := ko.cf2
  have c2' : (2 : Int) ≤ (cf : Int) := by omega
  have wr2 : IntKind.i64.wrap 2 = 2 := by decide
  have hkl := hlt k.blk
  unfold sv at *
  clear k ko
  go_enter Try.func22, Try.ntmps22
  go_wp2_with fail
  refine wp_region_held_drew (S := (fun w' => w'.cell? ⟨h, 2, none⟩ = some (.slice (some ⟨fg, 0, none⟩) 2 cf) ∧ w'.cell? ⟨w.heap.size, 3, none⟩ = some (.int .i64 0) ∧ w'.cell? ⟨w.heap.size, 4, none⟩ = some (.int .i64 2))) (by kernel_rfl) ⟨cell_al k2 _, hcell (hnew _ _) 3, hcell (hnew _ _) 4⟩ (fun hHeld => ?_)
  refine wpAnyH_take (i := 0) (oi := { dst := some 13, op := _, type := _, pos := _, after := _, guard := _ }) (v := ?_) rfl (by kernel_rfl) (by kernel_rfl) (by kernel_rfl) (fun _ _ _ h => h) (Or.inl ⟨by rfl, ?_⟩) (by assumption) ?_
  case refine_2 =>
    intro w hSw
    try dsimp only at hSw
    go_simp
    try with_reducible rfl
  simp only [Act.put, List.setIfInBounds_toArray, List.set_cons_zero, List.set_cons_succ]
  refine wpAnyH_take (i := 1) (oi := { dst := some 14, op := _, type := _, pos := _, after := _, guard := _ }) (v := ?_) rfl (by kernel_rfl) (by kernel_rfl) (by kernel_rfl) (fun _ _ _ h => h) (Or.inl ⟨by rfl, ?_⟩) (by assumption) ?_
  case refine_2 =>
    intro w hSw
    try dsimp only at hSw
    go_simp
    try with_reducible rfl
  simp only [Act.put, List.setIfInBounds_toArray, List.set_cons_zero, List.set_cons_succ]
  refine wpAnyH_take (i := 2) (oi := { dst := some 15, op := _, type := _, pos := _, after := _, guard := _ }) (v := ?_) rfl (by kernel_rfl) (by kernel_rfl) (by kernel_rfl) (fun _ _ _ h => h) (Or.inl ⟨by rfl, ?_⟩) (by assumption) ?_
  case refine_2 =>
    intro w hSw
    try dsimp only at hSw
    go_simp
    try with_reducible rfl
  simp only [Act.put, List.setIfInBounds_toArray, List.set_cons_zero, List.set_cons_succ]
  refine wpAnyH_take (i := 3) (oi := { dst := some 16, op := _, type := _, pos := _, after := _, guard := _ }) (v := ?_) rfl (by kernel_rfl) (by kernel_rfl) (by kernel_rfl) (fun _ _ _ h => h) (Or.inl ⟨by rfl, ?_⟩) (by assumption) ?_
  case refine_2 =>
    intro w hSw
    try dsimp only at hSw
    go_simp
    try with_reducible rfl
  simp only [Act.put, List.setIfInBounds_toArray, List.set_cons_zero, List.set_cons_succ]
  refine wpAnyH_take (i := 4) (oi := { dst := some 17, op := _, type := _, pos := _, after := _, guard := _ }) (v := ?_) rfl (by kernel_rfl) (by kernel_rfl) (by kernel_rfl) (fun _ _ _ h => h) (Or.inl ⟨by rfl, ?_⟩) (by assumption) ?_
  case refine_2 =>
    intro w hSw
    try dsimp only at hSw
    go_simp
    try with_reducible rfl
  simp only [Act.put, List.setIfInBounds_toArray, List.set_cons_zero, List.set_cons_succ]
  refine wpAnyH_take (i := 5) (oi := { dst := some 18, op := _, type := _, pos := _, after := _, guard := _ }) (v := ?_) rfl (by kernel_rfl) (by kernel_rfl) (by kernel_rfl) (fun _ _ _ h => h) (Or.inl ⟨by rfl, ?_⟩) (by assumption) ?_
  case refine_2 =>
    intro w hSw
    try dsimp only at hSw
    go_simp
    try with_reducible rfl
  simp only [Act.put, List.setIfInBounds_toArray, List.set_cons_zero, List.set_cons_succ]
  refine wpAnyH_take (i := 6) (oi := { dst := some 19, op := _, type := _, pos := _, after := _, guard := _ }) (v := ?_) rfl (by kernel_rfl) (by kernel_rfl) (by kernel_rfl) (fun _ _ _ h => h) (Or.inl ⟨by rfl, ?_⟩) (by assumption) ?_
  case refine_2 =>
    intro w hSw
    try dsimp only at hSw
    go_simp
    try with_reducible rfl
  simp only [Act.put, List.setIfInBounds_toArray, List.set_cons_zero, List.set_cons_succ]
  refine wpAnyH_take (i := 7) (oi := { dst := some 20, op := _, type := _, pos := _, after := _, guard := _ }) (v := ?_) rfl (by kernel_rfl) (by kernel_rfl) (by kernel_rfl) (fun _ _ _ h => h) (Or.inl ⟨by rfl, ?_⟩) (by assumption) ?_
  case refine_2 =>
    intro w hSw
    try dsimp only at hSw
    go_simp
    try with_reducible rfl
  simp only [Act.put, List.setIfInBounds_toArray, List.set_cons_zero, List.set_cons_succ]
  refine wpAnyH_take (i := 8) (oi := { dst := some 21, op := _, type := _, pos := _, after := _, guard := _ }) (v := ?_) rfl (by kernel_rfl) (by kernel_rfl) (by kernel_rfl) (fun _ _ _ h => h) (Or.inl ⟨by rfl, ?_⟩) (by assumption) ?_
  case refine_2 =>
    intro w hSw
    try dsimp only at hSw
    go_simp
    try with_reducible rfl
  simp only [Act.put, List.setIfInBounds_toArray, List.set_cons_zero, List.set_cons_succ]
  refine wpAnyH_take (i := 9) (oi := { dst := some 22, op := _, type := _, pos := _, after := _, guard := _ }) (v := ?_) rfl (by kernel_rfl) (by kernel_rfl) (by kernel_rfl) (fun _ _ _ h => h) (Or.inl ⟨by rfl, ?_⟩) (by assumption) ?_
  case refine_2 =>
    intro w hSw
    try dsimp only at hSw
    go_simp
    try with_reducible rfl
  simp only [Act.put, List.setIfInBounds_toArray, List.set_cons_zero, List.set_cons_succ]
  refine wpAnyH_take (i := 10) (oi := { dst := some 23, op := _, type := _, pos := _, after := _, guard := _ }) (v := ?_) rfl (by kernel_rfl) (by kernel_rfl) (by kernel_rfl) (fun _ _ _ h => h) (Or.inl ⟨by rfl, ?_⟩) (by assumption) ?_
  case refine_2 =>
    intro w hSw
    try dsimp only at hSw
    go_simp
    try with_reducible rfl
  simp only [Act.put, List.setIfInBounds_toArray, List.set_cons_zero, List.set_cons_succ]
  refine wpAnyH_take (i := 11) (oi := { dst := some 24, op := _, type := _, pos := _, after := _, guard := _ }) (v := ?_) rfl (by kernel_rfl) (by kernel_rfl) (by kernel_rfl) (fun _ _ _ h => h) (Or.inl ⟨by rfl, ?_⟩) (by assumption) ?_
  case refine_2 =>
    intro w hSw
    try dsimp only at hSw
    go_simp
    try with_reducible rfl
  simp only [Act.put, List.setIfInBounds_toArray, List.set_cons_zero, List.set_cons_succ]
  refine wpAnyH_take (i := 12) (oi := { dst := some 4, op := _, type := _, pos := _, after := _, guard := _ }) (v := ?_) rfl (by kernel_rfl) (by kernel_rfl) (by kernel_rfl) (fun _ _ _ h => h) (Or.inl ⟨by rfl, ?_⟩) (by assumption) ?_
  case refine_2 =>
    intro w hSw
    try dsimp only at hSw
    go_simp
    try with_reducible rfl
  simp only [Act.put, List.setIfInBounds_toArray, List.set_cons_zero, List.set_cons_succ]
  refine wpAnyH_done (by kernel_rfl) ?_ _
  go_wp2_with fail
  go_ret
  exact ⟨rfl, Below.drew ((Below.refl _ _).alloc (Nat.le_refl _) _)⟩
set_option maxRecDepth 100000 in
set_option maxHeartbeats 2000000 in
/-- Nothing lies there. -/
theorem get_missing {w : World} {h mb : Nat} {vo vf : Value} {last a i : Int} (k : Hp w h mb vo vf last) (hn : ∀ w', Below w.heap.size w w' → Calls Try.prog 35 #[.pointer (some ⟨h, 0, none⟩), .int .i64 a] w' fun e w'' => NumPost w' e w'') :
    Calls Try.prog 15 #[.pointer (some ⟨h, 0, none⟩), .int .i64 a, .int .i64 i] w fun e w' => e = .returned (.tuple #[.agg #[.int .i64 0, .int .i64 0, .string ⟨#[]⟩], .iface 45 (.int .i64 7)]) ∧ Below w.heap.size w w' := by
  have K := hide k
  have HN := hide hn
  have HBA := hide (fun o => (Below.refl w.heap.size w).alloc (Nat.le_refl _) o)
  clear k hn
  go_enter Try.func15, Try.ntmps15
  go_wp2_with fail
  refine (find_none ((unhide K).keep (unhide HBA _)) (fun w' hb => unhide HN w' ((unhide HBA _).trans (hb.mono (by simp))))).mono ?_
  rintro e w1 ⟨rfl, hb1⟩
  have hk := (hb1.block w.heap.size (by simp)).trans (hnew w _)
  have k0 := hcell hk 0
  have k1 := hcell hk 1
  have k2 := hcell hk 2
  have f0 := hfroz hk 0
  have f1 := hfroz hk 1
  have f2 := hfroz hk 2
  have HB := hide ((unhide HBA _).trans (hb1.mono (by simp)))
  have HK := hide hk
  clear hb1 hk
  go_wp2_with fail
  have hz := (hset (hset (hset (unhide HK) 0 (.int .i64 0)) 1 (.int .i64 0)) 2 (.string ⟨#[]⟩))
  have HBZ := ((((unhide HB).setCell (p := ⟨w.heap.size, 0, none⟩) (Nat.le_refl _) (.int .i64 0)).setCell (p := ⟨w.heap.size, 1, none⟩) (Nat.le_refl _) (.int .i64 0)).setCell (p := ⟨w.heap.size, 2, none⟩) (Nat.le_refl _) (.string ⟨#[]⟩))
  generalize (((w1.setCell ⟨w.heap.size, 0, none⟩ (.int .i64 0)).setCell ⟨w.heap.size, 1, none⟩ (.int .i64 0)).setCell ⟨w.heap.size, 2, none⟩ (.string ⟨#[]⟩)) = wz at *
  have z0 := hcell hz 0
  have z1 := hcell hz 1
  have z2 := hcell hz 2
  clear hz k0 k1 k2 f0 f1 f2
  exact bodyPost_ret (v := .tuple #[.agg #[.int .i64 0, .int .i64 0, .string ⟨#[]⟩], .iface 45 (.int .i64 7)]) (by simp [results, Try.results15, go_sem, z0, z1, z2]) rfl ⟨rfl, HBZ⟩

set_option maxRecDepth 100000 in
set_option maxHeartbeats 2000000 in
/-- Field 0. -/
theorem get_first0 {w : World} {h mb og co fg cf : Nat} {x0 x1 last : Int} (k : Hp w h mb (sv og co 1) (sv fg cf 2) last) (ko : Ob w og co fg cf x0 x1) :
    Calls Try.prog 15 #[.pointer (some ⟨h, 0, none⟩), .int .i64 1, .int .i64 0] w fun e w' => e = .returned (.tuple #[.agg #[.int .i64 x0, .int .i64 x1, .string ⟨#[]⟩], .nilIface]) ∧ Below w.heap.size w w' := by
  have K := hide k
  have KO := hide ko
  have HBA := hide (fun o => (Below.refl w.heap.size w).alloc (Nat.le_refl _) o)
  clear k ko
  go_enter Try.func15, Try.ntmps15
  go_wp2_with fail
  refine (find_first ((unhide K).keep (unhide HBA _))).mono ?_
  rintro e w0 ⟨rfl, hb0⟩
  have HB0 := hide ((unhide HBA _).trans (hb0.mono (by simp)))
  have HK0 := hide ((hb0.block w.heap.size (by simp)).trans (hnew w _))
  clear hb0
  go_wp2_with fail
  refine (has_first ((unhide K).keep (unhide HB0)) ((unhide KO).keep (unhide HB0))).mono ?_
  rintro e w1 ⟨rfl, hb1⟩
  have HB := hide ((unhide HB0).trans (hb1.mono (unhide HB0).size))
  obtain ⟨a0, a1, a2, a3, a4, a5⟩ := ((unhide KO).keep (unhide HB)).fc
  have hk := (hb1.block w.heap.size (hlt (unhide HK0))).trans (unhide HK0)
  have k0 := hcell hk 0
  have k1 := hcell hk 1
  have k2 := hcell hk 2
  have f0 := hfroz hk 0
  have f1 := hfroz hk 1
  have f2 := hfroz hk 2
  have HK := hide hk
  clear hb1 hk
  go_wp2_with fail
  have hz := (hset (hset (hset (unhide HK) 0 (.int .i64 x0)) 1 (.int .i64 x1)) 2 (.string ⟨#[]⟩))
  have HBZ := ((((unhide HB).setCell (p := ⟨w.heap.size, 0, none⟩) (Nat.le_refl _) (.int .i64 x0)).setCell (p := ⟨w.heap.size, 1, none⟩) (Nat.le_refl _) (.int .i64 x1)).setCell (p := ⟨w.heap.size, 2, none⟩) (Nat.le_refl _) (.string ⟨#[]⟩))
  generalize (((w1.setCell ⟨w.heap.size, 0, none⟩ (.int .i64 x0)).setCell ⟨w.heap.size, 1, none⟩ (.int .i64 x1)).setCell ⟨w.heap.size, 2, none⟩ (.string ⟨#[]⟩)) = wz at *
  have z0 := hcell hz 0
  have z1 := hcell hz 1
  have z2 := hcell hz 2
  clear hz k0 k1 k2 f0 f1 f2
  exact bodyPost_ret (v := .tuple #[.agg #[.int .i64 x0, .int .i64 x1, .string ⟨#[]⟩], .nilIface]) (by simp [results, Try.results15, go_sem, z0, z1, z2]) rfl ⟨rfl, HBZ⟩

set_option maxRecDepth 100000 in
set_option maxHeartbeats 2000000 in
/-- Field 1. -/
theorem get_first1 {w : World} {h mb og co fg cf : Nat} {x0 x1 last : Int} (k : Hp w h mb (sv og co 1) (sv fg cf 2) last) (ko : Ob w og co fg cf x0 x1) :
    Calls Try.prog 15 #[.pointer (some ⟨h, 0, none⟩), .int .i64 1, .int .i64 1] w fun e w' => e = .returned (.tuple #[.agg #[.int .i64 0, .int .i64 0, .string ⟨#[]⟩], .nilIface]) ∧ Below w.heap.size w w' := by
  have K := hide k
  have KO := hide ko
  have HBA := hide (fun o => (Below.refl w.heap.size w).alloc (Nat.le_refl _) o)
  clear k ko
  go_enter Try.func15, Try.ntmps15
  go_wp2_with fail
  refine (find_first ((unhide K).keep (unhide HBA _))).mono ?_
  rintro e w0 ⟨rfl, hb0⟩
  have HB0 := hide ((unhide HBA _).trans (hb0.mono (by simp)))
  have HK0 := hide ((hb0.block w.heap.size (by simp)).trans (hnew w _))
  clear hb0
  go_wp2_with fail
  refine (has_first ((unhide K).keep (unhide HB0)) ((unhide KO).keep (unhide HB0))).mono ?_
  rintro e w1 ⟨rfl, hb1⟩
  have HB := hide ((unhide HB0).trans (hb1.mono (unhide HB0).size))
  obtain ⟨a0, a1, a2, a3, a4, a5⟩ := ((unhide KO).keep (unhide HB)).fc
  have hk := (hb1.block w.heap.size (hlt (unhide HK0))).trans (unhide HK0)
  have k0 := hcell hk 0
  have k1 := hcell hk 1
  have k2 := hcell hk 2
  have f0 := hfroz hk 0
  have f1 := hfroz hk 1
  have f2 := hfroz hk 2
  have HK := hide hk
  clear hb1 hk
  go_wp2_with fail
  have hz := (hset (hset (hset (unhide HK) 0 (.int .i64 0)) 1 (.int .i64 0)) 2 (.string ⟨#[]⟩))
  have HBZ := ((((unhide HB).setCell (p := ⟨w.heap.size, 0, none⟩) (Nat.le_refl _) (.int .i64 0)).setCell (p := ⟨w.heap.size, 1, none⟩) (Nat.le_refl _) (.int .i64 0)).setCell (p := ⟨w.heap.size, 2, none⟩) (Nat.le_refl _) (.string ⟨#[]⟩))
  generalize (((w1.setCell ⟨w.heap.size, 0, none⟩ (.int .i64 0)).setCell ⟨w.heap.size, 1, none⟩ (.int .i64 0)).setCell ⟨w.heap.size, 2, none⟩ (.string ⟨#[]⟩)) = wz at *
  have z0 := hcell hz 0
  have z1 := hcell hz 1
  have z2 := hcell hz 2
  clear hz k0 k1 k2 f0 f1 f2
  exact bodyPost_ret (v := .tuple #[.agg #[.int .i64 0, .int .i64 0, .string ⟨#[]⟩], .nilIface]) (by simp [results, Try.results15, go_sem, z0, z1, z2]) rfl ⟨rfl, HBZ⟩

set_option maxRecDepth 100000 in
set_option maxHeartbeats 2000000 in
/-- There is none. -/
theorem object_none {w : World} {h mb : Nat} {vo vf : Value} {last a : Int} (k : Hp w h mb vo vf last) (hn : ∀ w', Below w.heap.size w w' → Calls Try.prog 35 #[.pointer (some ⟨h, 0, none⟩), .int .i64 a] w' fun e w'' => NumPost w' e w'') :
    Calls Try.prog 19 #[.pointer (some ⟨h, 0, none⟩), .int .i64 a] w fun e w' => e = .returned (.agg #[.int .i64 0, .int .i64 0, .int .i64 0, .int .i64 0, .int .i64 0, .bool false]) ∧ Below w.heap.size w w' := by
  have K := hide k
  have HN := hide hn
  have HBA := hide (fun o => (Below.refl w.heap.size w).alloc (Nat.le_refl _) o)
  clear k hn
  go_enter Try.func19, Try.ntmps19
  go_wp2_with fail
  refine (find_none ((unhide K).keep (unhide HBA _)) (fun w' hb => unhide HN w' ((unhide HBA _).trans (hb.mono (by simp))))).mono ?_
  rintro e w1 ⟨rfl, hb1⟩
  have hk := (hb1.block w.heap.size (by simp)).trans (hnew w _)
  have k0 := hcell hk 0
  have f0 := hfroz hk 0
  have k1 := hcell hk 1
  have f1 := hfroz hk 1
  have k2 := hcell hk 2
  have f2 := hfroz hk 2
  have k3 := hcell hk 3
  have f3 := hfroz hk 3
  have k4 := hcell hk 4
  have f4 := hfroz hk 4
  have k5 := hcell hk 5
  have f5 := hfroz hk 5
  have HB := hide ((unhide HBA _).trans (hb1.mono (by simp)))
  have HK := hide hk
  clear hb1 hk
  go_wp2_with fail
  have hz := (hset (hset (hset (hset (hset (hset (unhide HK) 0 (.int .i64 0)) 1 (.int .i64 0)) 2 (.int .i64 0)) 3 (.int .i64 0)) 4 (.int .i64 0)) 5 (.bool false))
  have HBZ := (((((((unhide HB).setCell (p := ⟨w.heap.size, 0, none⟩) (Nat.le_refl _) (.int .i64 0)).setCell (p := ⟨w.heap.size, 1, none⟩) (Nat.le_refl _) (.int .i64 0)).setCell (p := ⟨w.heap.size, 2, none⟩) (Nat.le_refl _) (.int .i64 0)).setCell (p := ⟨w.heap.size, 3, none⟩) (Nat.le_refl _) (.int .i64 0)).setCell (p := ⟨w.heap.size, 4, none⟩) (Nat.le_refl _) (.int .i64 0)).setCell (p := ⟨w.heap.size, 5, none⟩) (Nat.le_refl _) (.bool false))
  generalize ((((((w1.setCell ⟨w.heap.size, 0, none⟩ (.int .i64 0)).setCell ⟨w.heap.size, 1, none⟩ (.int .i64 0)).setCell ⟨w.heap.size, 2, none⟩ (.int .i64 0)).setCell ⟨w.heap.size, 3, none⟩ (.int .i64 0)).setCell ⟨w.heap.size, 4, none⟩ (.int .i64 0)).setCell ⟨w.heap.size, 5, none⟩ (.bool false)) = wz at *
  clear k0 f0 k1 f1 k2 f2 k3 f3 k4 f4 k5 f5
  exact bodyPost_ret (v := .agg #[.int .i64 0, .int .i64 0, .int .i64 0, .int .i64 0, .int .i64 0, .bool false]) (results_cell_row Try.results19 _ _ w.heap.size 56 _ (0, 0) _ rfl hz Try.underlying56 rfl (by kernel_rfl)) rfl ⟨rfl, HBZ⟩

set_option maxRecDepth 100000 in
set_option maxHeartbeats 2000000 in
/-- The one. -/
theorem object_first {w : World} {h mb og co fg cf : Nat} {x0 x1 last : Int} (k : Hp w h mb (sv og co 1) (sv fg cf 2) last) (ko : Ob w og co fg cf x0 x1) :
    Calls Try.prog 19 #[.pointer (some ⟨h, 0, none⟩), .int .i64 1] w fun e w' => e = .returned (.agg #[.int .i64 2, .int .i64 7, .int .i64 1, .int .i64 0, .int .i64 2, .bool false]) ∧ Below w.heap.size w w' := by
  have K := hide k
  have KO := hide ko
  have HBA := hide (fun o => (Below.refl w.heap.size w).alloc (Nat.le_refl _) o)
  clear k ko
  go_enter Try.func19, Try.ntmps19
  go_wp2_with fail
  refine (find_first ((unhide K).keep (unhide HBA _))).mono ?_
  rintro e w1 ⟨rfl, hb1⟩
  have hk := (hb1.block w.heap.size (by simp)).trans (hnew w _)
  have k0 := hcell hk 0
  have f0 := hfroz hk 0
  have k1 := hcell hk 1
  have f1 := hfroz hk 1
  have k2 := hcell hk 2
  have f2 := hfroz hk 2
  have k3 := hcell hk 3
  have f3 := hfroz hk 3
  have k4 := hcell hk 4
  have f4 := hfroz hk 4
  have k5 := hcell hk 5
  have f5 := hfroz hk 5
  have HB := hide ((unhide HBA _).trans (hb1.mono (by simp)))
  obtain ⟨a0, a1, a2, a3, a4, a5⟩ := ((unhide KO).keep (unhide HB)).oc
  have c1 : w1.cell? ⟨h, 1, none⟩ = some (sv og co 1) := hcell ((unhide K).keep (unhide HB)).blk 1
  unfold sv at c1
  have HK := hide hk
  clear hb1 hk
  go_wp2_with fail
  have hz := (hset (hset (hset (hset (hset (hset (unhide HK) 0 (.int .i64 2)) 1 (.int .i64 7)) 2 (.int .i64 1)) 3 (.int .i64 0)) 4 (.int .i64 2)) 5 (.bool false))
  have HBZ := (((((((unhide HB).setCell (p := ⟨w.heap.size, 0, none⟩) (Nat.le_refl _) (.int .i64 2)).setCell (p := ⟨w.heap.size, 1, none⟩) (Nat.le_refl _) (.int .i64 7)).setCell (p := ⟨w.heap.size, 2, none⟩) (Nat.le_refl _) (.int .i64 1)).setCell (p := ⟨w.heap.size, 3, none⟩) (Nat.le_refl _) (.int .i64 0)).setCell (p := ⟨w.heap.size, 4, none⟩) (Nat.le_refl _) (.int .i64 2)).setCell (p := ⟨w.heap.size, 5, none⟩) (Nat.le_refl _) (.bool false))
  generalize ((((((w1.setCell ⟨w.heap.size, 0, none⟩ (.int .i64 2)).setCell ⟨w.heap.size, 1, none⟩ (.int .i64 7)).setCell ⟨w.heap.size, 2, none⟩ (.int .i64 1)).setCell ⟨w.heap.size, 3, none⟩ (.int .i64 0)).setCell ⟨w.heap.size, 4, none⟩ (.int .i64 2)).setCell ⟨w.heap.size, 5, none⟩ (.bool false)) = wz at *
  clear k0 f0 k1 f1 k2 f2 k3 f3 k4 f4 k5 f5
  exact bodyPost_ret (v := .agg #[.int .i64 2, .int .i64 7, .int .i64 1, .int .i64 0, .int .i64 2, .bool false]) (results_cell_row Try.results19 _ _ w.heap.size 56 _ (0, 0) _ rfl hz Try.underlying56 rfl (by kernel_rfl)) rfl ⟨rfl, HBZ⟩

set_option maxRecDepth 100000 in
set_option maxHeartbeats 2000000 in
theorem kind_first {w : World} {h mb og co fg cf : Nat} {x0 x1 last : Int} (k : Hp w h mb (sv og co 1) (sv fg cf 2) last) (ko : Ob w og co fg cf x0 x1) :
    Calls Try.prog 20 #[.pointer (some ⟨h, 0, none⟩), .int .i64 1] w fun e w' => e = .returned (.int .i64 2) ∧ Below w.heap.size w w' := by
  have hf : ∀ w, (Go.Instr.field 56 (.agg #[.int .i64 2, .int .i64 7, .int .i64 1, .int .i64 0, .int .i64 2, .bool false]) 0).run Try.prog w = .ok (.int .i64 2) w := fun w => by kernel_rfl
  go_enter Try.func20, Try.ntmps20
  go_wp2_with fail
  refine (object_first k ko).mono ?_
  rintro e w1 ⟨rfl, hb1⟩
  have HB := hide hb1
  clear hb1
  go_wp2_with fail
  go_ret
  exact ⟨rfl, unhide HB⟩

set_option maxRecDepth 100000 in
set_option maxHeartbeats 2000000 in
theorem tag_first {w : World} {h mb og co fg cf : Nat} {x0 x1 last : Int} (k : Hp w h mb (sv og co 1) (sv fg cf 2) last) (ko : Ob w og co fg cf x0 x1) :
    Calls Try.prog 24 #[.pointer (some ⟨h, 0, none⟩), .int .i64 1] w fun e w' => e = .returned (.int .i64 7) ∧ Below w.heap.size w w' := by
  have hf : ∀ w, (Go.Instr.field 56 (.agg #[.int .i64 2, .int .i64 7, .int .i64 1, .int .i64 0, .int .i64 2, .bool false]) 1).run Try.prog w = .ok (.int .i64 7) w := fun w => by kernel_rfl
  go_enter Try.func24, Try.ntmps24
  go_wp2_with fail
  refine (object_first k ko).mono ?_
  rintro e w1 ⟨rfl, hb1⟩
  have HB := hide hb1
  clear hb1
  go_wp2_with fail
  go_ret
  exact ⟨rfl, unhide HB⟩

set_option maxRecDepth 100000 in
set_option maxHeartbeats 2000000 in
theorem id_first {w : World} {h mb og co fg cf : Nat} {x0 x1 last : Int} (k : Hp w h mb (sv og co 1) (sv fg cf 2) last) (ko : Ob w og co fg cf x0 x1) :
    Calls Try.prog 16 #[.pointer (some ⟨h, 0, none⟩), .int .i64 1] w fun e w' => e = .returned (.int .i64 1) ∧ Below w.heap.size w w' := by
  have hf : ∀ w, (Go.Instr.field 56 (.agg #[.int .i64 2, .int .i64 7, .int .i64 1, .int .i64 0, .int .i64 2, .bool false]) 2).run Try.prog w = .ok (.int .i64 1) w := fun w => by kernel_rfl
  go_enter Try.func16, Try.ntmps16
  go_wp2_with fail
  refine (object_first k ko).mono ?_
  rintro e w1 ⟨rfl, hb1⟩
  have HB := hide hb1
  clear hb1
  go_wp2_with fail
  go_ret
  exact ⟨rfl, unhide HB⟩

set_option maxRecDepth 100000 in
set_option maxHeartbeats 2000000 in
theorem kind_none {w : World} {h mb : Nat} {vo vf : Value} {last a : Int} (k : Hp w h mb vo vf last) (hn : ∀ w', Below w.heap.size w w' → Calls Try.prog 35 #[.pointer (some ⟨h, 0, none⟩), .int .i64 a] w' fun e w'' => NumPost w' e w'') :
    Calls Try.prog 20 #[.pointer (some ⟨h, 0, none⟩), .int .i64 a] w fun e w' => e = .returned (.int .i64 0) ∧ Below w.heap.size w w' := by
  have hf : ∀ w, (Go.Instr.field 56 (.agg #[.int .i64 0, .int .i64 0, .int .i64 0, .int .i64 0, .int .i64 0, .bool false]) 0).run Try.prog w = .ok (.int .i64 0) w := fun w => by kernel_rfl
  have K := hide k
  have HN := hide hn
  clear k hn
  go_enter Try.func20, Try.ntmps20
  go_wp2_with fail
  refine (object_none (unhide K) (unhide HN)).mono ?_
  rintro e w1 ⟨rfl, hb1⟩
  have HB := hide hb1
  clear hb1
  go_wp2_with fail
  go_ret
  exact ⟨rfl, unhide HB⟩
end Go.Proofs.Ytddfdefgdlfpmaa
