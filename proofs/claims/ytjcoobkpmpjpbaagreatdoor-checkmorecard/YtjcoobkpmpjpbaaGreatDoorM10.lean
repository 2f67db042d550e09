/-
  Statements with blocks.
  One deeper.
  Leaves, names with arguments.
  Values that a word or sign tells.
  Values that a word or sign tells.
  Values that a word or sign tells.
-/
import Derived.Test.YtjcoobkpmpjpbaaGreatDoorM09
namespace Go.Proofs.YtjcoobkpmpjpbaaGreatDoor
open Go.RowKit
attribute [local go_sem ↓] Go.wp_at_zero Go.wp_at_succ

theorem ent_par (r : Nat) : ∀ w : World, Sem.run Tryz.prog (callFunc 113 #[.pointer (some ⟨r, 0, none⟩)]) w = .ok (.enter 113 #[.pointer (some ⟨r, 0, none⟩)]) w := fun _ => by kernel_rfl
theorem ent_catch (r : Nat) : ∀ w : World, Sem.run Tryz.prog (callFunc 127 #[.pointer (some ⟨r, 0, none⟩)]) w = .ok (.enter 127 #[.pointer (some ⟨r, 0, none⟩)]) w := fun _ => by kernel_rfl

set_option maxRecDepth 100000 in
set_option maxHeartbeats 8000000 in
theorem guarded_any {w : World} {r D : Nat} {S : LS} (cx : Cx w r S) (hD : S.dp = D) {L : Low} (hL : LowC r D L) (k : Nat) (hk : S.kd ≠ 0) :
    Calls Tryz.prog 110 #[.pointer (some ⟨r, 0, none⟩), .int .i64 k] w fun e w' => Ret (guardedP L k S) r (vNode w.heap.size) e w' ∧ Ext r w w' := by
  obtain ⟨i0, hi, hz0, hz1, hz2⟩ := info_parts infoNode
  have hr0 := cx.jc.lt
  have HL := hide hL
  clear hL
  have HX0 : Hid (Ext r w w) := Ext.refl r w
  have hd0 := hD
  have HC0 := hide cx
  clear cx
  go_enter Tryz.func110, Tryz.ntmps110
  go_wp2_with fail
  refine Ret.call (taken_any (unhide HC0) k) ?_ ?_
  · intro f wz hf hx
    exact ⟨rfl, Ret.inl (bnd_inl hf), (unhide HX0).trans hx⟩
  intro a1 S1 v w1 hf hv cx1 hx
  obtain ⟨rfl, hu⟩ := hv
  have HU1 := hide hu
  have hon1 := take_on (unhide HC0).ok hk hf
  have hd1 : S1.dp = D := hon1.same.dp.trans hd0
  have HP1 := hide (show (guardedP L k S) = _ from bnd_inr hf)
  have HX1 := hide ((unhide HX0).trans hx)
  have HC1 := hide cx1
  clear hf hx cx1 HC0 HX0 hd0 hu
  obtain ⟨ks1, vs1, HU⟩ : ∃ ks vs, Hid (Und (fun j => w.heap.size ≤ j) w1 w.heap.size k noText noText 0 S.tl ([]) ks vs) := ⟨_, _, unhide HU1⟩
  have hvs1 : vs1.length ≤ 3000 := by rw [(unhide HU).len]; exact (by simp : ([]).length ≤ 3000)
  obtain ⟨t0, hb⟩ := (unhide HU).cells
  have d5 : w1.cell? ⟨w.heap.size, 5, none⟩ = some ks1 := hcell hb 5
  have g5 := hfroz hb 5
  have hent := ent_par r
  clear hb HU1
  go_wp2_with fail
  go_cut [] (fun wc => ∃ (t : Tree) (S4 : LS) (ks' : Value) (vs' : List Value), Hid (inParP L S1 = .inr (t, S4)) ∧ Cx wc r S4 ∧ Hid (Und (fun j => w.heap.size ≤ j) wc w.heap.size k noText noText 0 S.tl ([] ++ [t]) ks' vs') ∧ Hid (Ext r w wc))
  case first =>
    go_region_law ((first | (refine step_append_lies _ (by rfl) _ _ _ (by rfl) 0 22 i0 (.pointer none) 1 8 Tryz.underlying37 hi hz0 hz1 hz2 rfl (by decide) ks1 vs1.length vs1 (by rfl) ((unhide HO2).alloc _) ⟨w2.heap.size, 0, none⟩ 1 1 [.pointer (some ⟨kb, 0, none⟩)] (by rfl) rfl (cell_one_new _ _ _) (fun u hu => by simp at hu; subst hu; rfl) (by decide) (by unfold maxLen; omega) (by omega) (Nat.zero_le _) (w2.heap.size + 1) (by simp) ?_; intro g cap w3 hown hgrow hat hlt; obtain ⟨e6, f6, HU3, HX3, HC3⟩ := kid_more rfl (unhide HU).drew (unhide HU2) hr0 (unhide HC2) (unhide HX2) (unhide HV2) _ hown hgrow hat; clear hown hgrow hat hlt) | (refine step_call rfl (by simp [Act.eval, hent, go_sem]) (Ret.call (inPar_any (unhide HC1).drew hd1 (unhide HL)) (fun f w2 hf hx => ⟨rfl, Ret.inl ((unhide HP1).trans (bnd_inl hf)), ((unhide HX1).drew).trans hx⟩) ?_); intro t S1 v w2 hf hv cx1 hx; obtain ⟨kb, rfl⟩ := vNode_ptr hv; obtain ⟨e5, e5a, HO2, HU2⟩ := kid_call (unhide HU).drew hx (by omega); have HV2 := hide hv; have HC2 := hide cx1; have HX2 := hide (((unhide HX1).drew).trans hx); have HF := hide hf; clear hv cx1 hx hf)))
    all_goals
      go_wp2_with fail
      go_meet
      exact ⟨t, _, _, _, unhide HF, unhide HC3, unhide HU3, unhide HX3⟩
  case rest =>
    obtain ⟨t2, S2, ks2, vs2, HF, cx2, HU2, HX2⟩ := hcut
    have hon2 := inParP_good (unhide HL).good _ _ _ (unhide HC1).ok (unhide HF)
    have hd2 : S2.dp = D := hon2.same.dp.trans hd1
    have HP2 := hide ((unhide HP1).trans (bnd_inr (unhide HF)))
    have HC2 := hide cx2
    clear d5 g5 hent HU HX1 HC1 HF cx2 hd1 hvs1 HP1
    obtain ⟨ks2, vs2, HU⟩ : ∃ ks vs, Hid (Und (fun j => w.heap.size ≤ j) wc w.heap.size k noText noText 0 S.tl ([] ++ [t2]) ks vs) := ⟨_, _, unhide HU2⟩
    have hvs2 : vs2.length ≤ 3000 := by rw [(unhide HU).len]; exact (by simp : ([] ++ [t2]).length ≤ 3000)
    obtain ⟨t0, hb⟩ := (unhide HU).cells
    have d5 : wc.cell? ⟨w.heap.size, 5, none⟩ = some ks2 := hcell hb 5
    have g5 := hfroz hb 5
    have hent := ent_block r
    clear hb HU2
    go_wp2_with fail
    go_cut [] (fun wc => ∃ (t : Tree) (S4 : LS) (ks' : Value) (vs' : List Value), Hid (blockP L S2 = .inr (t, S4)) ∧ Cx wc r S4 ∧ Hid (Und (fun j => w.heap.size ≤ j) wc w.heap.size k noText noText 0 S.tl ([] ++ [t2] ++ [t]) ks' vs') ∧ Hid (Ext r w wc))
    case first =>
      go_region_law ((first | (refine step_append_lies _ (by rfl) _ _ _ (by rfl) 0 22 i0 (.pointer none) 1 8 Tryz.underlying37 hi hz0 hz1 hz2 rfl (by decide) ks2 vs2.length vs2 (by rfl) ((unhide HO2).alloc _) ⟨w2.heap.size, 0, none⟩ 1 1 [.pointer (some ⟨kb, 0, none⟩)] (by rfl) rfl (cell_one_new _ _ _) (fun u hu => by simp at hu; subst hu; rfl) (by decide) (by unfold maxLen; omega) (by omega) (Nat.zero_le _) (w2.heap.size + 1) (by simp) ?_; intro g cap w3 hown hgrow hat hlt; obtain ⟨e6, f6, HU3, HX3, HC3⟩ := kid_more rfl (unhide HU).drew (unhide HU2) hr0 (unhide HC2) (unhide HX2) (unhide HV2) _ hown hgrow hat; clear hown hgrow hat hlt) | (refine step_call rfl (by simp [Act.eval, hent, go_sem]) (Ret.call (block_any (unhide HC2).drew hd2 (unhide HL)) (fun f w2 hf hx => ⟨rfl, Ret.inl ((unhide HP2).trans (bnd_inl hf)), ((unhide HX2).drew).trans hx⟩) ?_); intro t S1 v w2 hf hv cx1 hx; obtain ⟨kb, rfl⟩ := vNode_ptr hv; obtain ⟨e5, e5a, HO2, HU2⟩ := kid_call (unhide HU).drew hx (by omega); have HV2 := hide hv; have HC2 := hide cx1; have HX2 := hide (((unhide HX2).drew).trans hx); have HF := hide hf; clear hv cx1 hx hf)))
      all_goals
        go_wp2_with fail
        go_meet
        exact ⟨t, _, _, _, unhide HF, unhide HC3, unhide HU3, unhide HX3⟩
    case rest =>
      obtain ⟨t3, S3, ks3, vs3, HF, cx3, HU3, HX3⟩ := hcut
      have hon3 := blockP_good (unhide HL).good _ _ _ (unhide HC2).ok (unhide HF)
      have hd3 : S3.dp = D := hon3.same.dp.trans hd2
      have HP3 := hide ((unhide HP2).trans (bnd_inr (unhide HF)))
      have HC3 := hide cx3
      clear d5 g5 hent HU HX2 HC2 HF cx3 hd2 hvs2 HP2
      go_wp2_with fail
      go_ret
      exact ⟨Ret.inr (unhide HP3) ((unhide HU3).node) (unhide HC3), unhide HX3⟩

/-- A node with two kids that may get more. -/
def vGrd (lo ln k : Nat) (t : Tree) (v : Value) (w' : World) : Prop := v = .pointer (some ⟨lo, 0, none⟩) ∧ ∃ c b ks vs, t = nd k ln [c, b] ∧ Und (fun j => lo ≤ j) w' lo k noText noText 0 ln [c, b] ks vs

set_option maxRecDepth 100000 in
set_option maxHeartbeats 8000000 in
theorem guarded_und {w : World} {r D : Nat} {S : LS} (cx : Cx w r S) (hD : S.dp = D) {L : Low} (hL : LowC r D L) (k : Nat) (hk : S.kd ≠ 0) :
    Calls Tryz.prog 110 #[.pointer (some ⟨r, 0, none⟩), .int .i64 k] w fun e w' => Ret (guardedP L k S) r (vGrd w.heap.size S.tl k) e w' ∧ Ext r w w' := by
  obtain ⟨i0, hi, hz0, hz1, hz2⟩ := info_parts infoNode
  have hr0 := cx.jc.lt
  have HL := hide hL
  clear hL
  have HX0 : Hid (Ext r w w) := Ext.refl r w
  have hd0 := hD
  have HC0 := hide cx
  clear cx
  go_enter Tryz.func110, Tryz.ntmps110
  go_wp2_with fail
  refine Ret.call (taken_any (unhide HC0) k) ?_ ?_
  · intro f wz hf hx
    exact ⟨rfl, Ret.inl (bnd_inl hf), (unhide HX0).trans hx⟩
  intro a1 S1 v w1 hf hv cx1 hx
  obtain ⟨rfl, hu⟩ := hv
  have HU1 := hide hu
  have hon1 := take_on (unhide HC0).ok hk hf
  have hd1 : S1.dp = D := hon1.same.dp.trans hd0
  have HP1 := hide (show (guardedP L k S) = _ from bnd_inr hf)
  have HX1 := hide ((unhide HX0).trans hx)
  have HC1 := hide cx1
  clear hf hx cx1 HC0 HX0 hd0 hu
  obtain ⟨ks1, vs1, HU⟩ : ∃ ks vs, Hid (Und (fun j => w.heap.size ≤ j) w1 w.heap.size k noText noText 0 S.tl ([]) ks vs) := ⟨_, _, unhide HU1⟩
  have hvs1 : vs1.length ≤ 3000 := by rw [(unhide HU).len]; exact (by simp : ([]).length ≤ 3000)
  obtain ⟨t0, hb⟩ := (unhide HU).cells
  have d5 : w1.cell? ⟨w.heap.size, 5, none⟩ = some ks1 := hcell hb 5
  have g5 := hfroz hb 5
  have hent := ent_par r
  clear hb HU1
  go_wp2_with fail
  go_cut [] (fun wc => ∃ (t : Tree) (S4 : LS) (ks' : Value) (vs' : List Value), Hid (inParP L S1 = .inr (t, S4)) ∧ Cx wc r S4 ∧ Hid (Und (fun j => w.heap.size ≤ j) wc w.heap.size k noText noText 0 S.tl ([] ++ [t]) ks' vs') ∧ Hid (Ext r w wc))
  case first =>
    go_region_law ((first | (refine step_append_lies _ (by rfl) _ _ _ (by rfl) 0 22 i0 (.pointer none) 1 8 Tryz.underlying37 hi hz0 hz1 hz2 rfl (by decide) ks1 vs1.length vs1 (by rfl) ((unhide HO2).alloc _) ⟨w2.heap.size, 0, none⟩ 1 1 [.pointer (some ⟨kb, 0, none⟩)] (by rfl) rfl (cell_one_new _ _ _) (fun u hu => by simp at hu; subst hu; rfl) (by decide) (by unfold maxLen; omega) (by omega) (Nat.zero_le _) (w2.heap.size + 1) (by simp) ?_; intro g cap w3 hown hgrow hat hlt; obtain ⟨e6, f6, HU3, HX3, HC3⟩ := kid_more rfl (unhide HU).drew (unhide HU2) hr0 (unhide HC2) (unhide HX2) (unhide HV2) _ hown hgrow hat; clear hown hgrow hat hlt) | (refine step_call rfl (by simp [Act.eval, hent, go_sem]) (Ret.call (inPar_any (unhide HC1).drew hd1 (unhide HL)) (fun f w2 hf hx => ⟨rfl, Ret.inl ((unhide HP1).trans (bnd_inl hf)), ((unhide HX1).drew).trans hx⟩) ?_); intro t S1 v w2 hf hv cx1 hx; obtain ⟨kb, rfl⟩ := vNode_ptr hv; obtain ⟨e5, e5a, HO2, HU2⟩ := kid_call (unhide HU).drew hx (by omega); have HV2 := hide hv; have HC2 := hide cx1; have HX2 := hide (((unhide HX1).drew).trans hx); have HF := hide hf; clear hv cx1 hx hf)))
    all_goals
      go_wp2_with fail
      go_meet
      exact ⟨t, _, _, _, unhide HF, unhide HC3, unhide HU3, unhide HX3⟩
  case rest =>
    obtain ⟨t2, S2, ks2, vs2, HF, cx2, HU2, HX2⟩ := hcut
    have hon2 := inParP_good (unhide HL).good _ _ _ (unhide HC1).ok (unhide HF)
    have hd2 : S2.dp = D := hon2.same.dp.trans hd1
    have HP2 := hide ((unhide HP1).trans (bnd_inr (unhide HF)))
    have HC2 := hide cx2
    clear d5 g5 hent HU HX1 HC1 HF cx2 hd1 hvs1 HP1
    obtain ⟨ks2, vs2, HU⟩ : ∃ ks vs, Hid (Und (fun j => w.heap.size ≤ j) wc w.heap.size k noText noText 0 S.tl ([] ++ [t2]) ks vs) := ⟨_, _, unhide HU2⟩
    have hvs2 : vs2.length ≤ 3000 := by rw [(unhide HU).len]; exact (by simp : ([] ++ [t2]).length ≤ 3000)
    obtain ⟨t0, hb⟩ := (unhide HU).cells
    have d5 : wc.cell? ⟨w.heap.size, 5, none⟩ = some ks2 := hcell hb 5
    have g5 := hfroz hb 5
    have hent := ent_block r
    clear hb HU2
    go_wp2_with fail
    go_cut [] (fun wc => ∃ (t : Tree) (S4 : LS) (ks' : Value) (vs' : List Value), Hid (blockP L S2 = .inr (t, S4)) ∧ Cx wc r S4 ∧ Hid (Und (fun j => w.heap.size ≤ j) wc w.heap.size k noText noText 0 S.tl ([] ++ [t2] ++ [t]) ks' vs') ∧ Hid (Ext r w wc))
    case first =>
      go_region_law ((first | (refine step_append_lies _ (by rfl) _ _ _ (by rfl) 0 22 i0 (.pointer none) 1 8 Tryz.underlying37 hi hz0 hz1 hz2 rfl (by decide) ks2 vs2.length vs2 (by rfl) ((unhide HO2).alloc _) ⟨w2.heap.size, 0, none⟩ 1 1 [.pointer (some ⟨kb, 0, none⟩)] (by rfl) rfl (cell_one_new _ _ _) (fun u hu => by simp at hu; subst hu; rfl) (by decide) (by unfold maxLen; omega) (by omega) (Nat.zero_le _) (w2.heap.size + 1) (by simp) ?_; intro g cap w3 hown hgrow hat hlt; obtain ⟨e6, f6, HU3, HX3, HC3⟩ := kid_more rfl (unhide HU).drew (unhide HU2) hr0 (unhide HC2) (unhide HX2) (unhide HV2) _ hown hgrow hat; clear hown hgrow hat hlt) | (refine step_call rfl (by simp [Act.eval, hent, go_sem]) (Ret.call (block_any (unhide HC2).drew hd2 (unhide HL)) (fun f w2 hf hx => ⟨rfl, Ret.inl ((unhide HP2).trans (bnd_inl hf)), ((unhide HX2).drew).trans hx⟩) ?_); intro t S1 v w2 hf hv cx1 hx; obtain ⟨kb, rfl⟩ := vNode_ptr hv; obtain ⟨e5, e5a, HO2, HU2⟩ := kid_call (unhide HU).drew hx (by omega); have HV2 := hide hv; have HC2 := hide cx1; have HX2 := hide (((unhide HX2).drew).trans hx); have HF := hide hf; clear hv cx1 hx hf)))
      all_goals
        go_wp2_with fail
        go_meet
        exact ⟨t, _, _, _, unhide HF, unhide HC3, unhide HU3, unhide HX3⟩
    case rest =>
      obtain ⟨t3, S3, ks3, vs3, HF, cx3, HU3, HX3⟩ := hcut
      have hon3 := blockP_good (unhide HL).good _ _ _ (unhide HC2).ok (unhide HF)
      have hd3 : S3.dp = D := hon3.same.dp.trans hd2
      have HP3 := hide ((unhide HP2).trans (bnd_inr (unhide HF)))
      have HC3 := hide cx3
      clear d5 g5 hent HU HX2 HC2 HF cx3 hd2 hvs2 HP2
      go_wp2_with fail
      go_ret
      exact ⟨Ret.inr (unhide HP3) (⟨rfl, t2, t3, _, _, rfl, unhide HU3⟩) (unhide HC3), unhide HX3⟩

set_option maxRecDepth 100000 in
set_option maxHeartbeats 8000000 in
theorem catch_any {w : World} {r D : Nat} {S : LS} (cx : Cx w r S) (hD : S.dp = D) {L : Low} (hL : LowC r D L) :
    Calls Tryz.prog 127 #[.pointer (some ⟨r, 0, none⟩)] w fun e w' => Ret (catchP L S) r (vNode w.heap.size) e w' ∧ Ext r w w' := by
  obtain ⟨i0, hi, hz0, hz1, hz2⟩ := info_parts infoNode
  have hr0 := cx.jc.lt
  have HL := hide hL
  clear hL
  have HX0 : Hid (Ext r w w) := Ext.refl r w
  have hd0 := hD
  have HC0 := hide cx
  clear cx
  go_enter Tryz.func127, Tryz.ntmps127
  go_wp2_with fail
  refine (start_calls (unhide HC0) 15).mono ?_
  rintro e w1 ⟨v, rfl, ⟨rfl, hu⟩, cx1, hx⟩
  have HU1 := hide hu
  have HX1 := hide ((unhide HX0).trans hx)
  have HC1 := hide cx1
  have hd1 := hd0
  clear hu hx cx1 HC0 HX0
  go_wp2_with fail
  refine Ret.call (want_any (unhide HC1) wCatch) ?_ ?_
  · intro f wz hf hx
    exact ⟨rfl, Ret.inl (bnd_inl hf), (unhide HX1).trans hx⟩
  intro a2 S2 v w2 hf hv cx2 hx
  obtain rfl : v = .tuple #[] := hv
  have hon2 := want_on (unhide HC1).ok hf
  have hd2 : S2.dp = D := hon2.same.dp.trans hd1
  have HP2 := hide (show (catchP L S) = _ from bnd_inr hf)
  have HU2 := hide ((unhide HU1).ext hx fun j hj => by omega)
  have HX2 := hide ((unhide HX1).trans hx)
  have HC2 := hide cx2
  clear hf hx cx2 HC1 HX1 hd1 HU1
  go_wp2_with fail
  refine Ret.call (want_any (unhide HC2) tOpen) ?_ ?_
  · intro f wz hf hx
    exact ⟨rfl, Ret.inl ((unhide HP2).trans (bnd_inl hf)), (unhide HX2).trans hx⟩
  intro a3 S3 v w3 hf hv cx3 hx
  obtain rfl : v = .tuple #[] := hv
  have hon3 := want_on (unhide HC2).ok hf
  have hd3 : S3.dp = D := hon3.same.dp.trans hd2
  have HP3 := hide ((unhide HP2).trans (bnd_inr hf))
  have HU3 := hide ((unhide HU2).ext hx fun j hj => by omega)
  have HX3 := hide ((unhide HX2).trans hx)
  have HC3 := hide cx3
  clear hf hx cx3 HC2 HX2 hd2 HP2 HU2
  go_wp2_with fail
  refine Ret.call (name_any (unhide HC3)) ?_ ?_
  · intro f wz hf hx
    exact ⟨rfl, Ret.inl ((unhide HP3).trans (bnd_inl hf)), (unhide HX3).trans hx⟩
  intro s4 S4 v w4 hf hv cx4 hx
  obtain rfl : v = .string s4 := hv
  have hon4 := name_on (unhide HC3).ok hf
  have hd4 : S4.dp = D := hon4.same.dp.trans hd3
  have HP4 := hide ((unhide HP3).trans (bnd_inr hf))
  have HU4 := hide ((unhide HU3).ext hx fun j hj => by omega)
  have HX4 := hide ((unhide HX3).trans hx)
  have HC4 := hide cx4
  clear hf hx cx4 HC3 HX3 hd3 HP3 HU3
  obtain ⟨t0, hb⟩ := (unhide HU4).cells
  have dq : w4.cell? ⟨w.heap.size, 1, none⟩ = some (.string noText) := hcell hb 1
  have gq := hfroz hb 1
  clear hb
  have HU5 := hide ((unhide HU4).put 1 (.string s4) (tx' := s4) rfl)
  have HX5 := hide ((unhide HX4).setNew ⟨w.heap.size, 1, none⟩ (Nat.le_refl _) (.string s4))
  have HC5 := hide ((unhide HC4).setCell hr0 1 (.string s4))
  have hd5 := hd4
  clear HU4 HX4 HC4
  go_wp2_with fail
  refine Ret.call (want_any (unhide HC5) tShut) ?_ ?_
  · intro f wz hf hx
    exact ⟨rfl, Ret.inl ((unhide HP4).trans (bnd_inl hf)), (unhide HX5).trans hx⟩
  intro a6 S6 v w6 hf hv cx6 hx
  obtain rfl : v = .tuple #[] := hv
  have hon6 := want_on (unhide HC5).ok hf
  have hd6 : S6.dp = D := hon6.same.dp.trans hd5
  have HP6 := hide ((unhide HP4).trans (bnd_inr hf))
  have HU6 := hide ((unhide HU5).ext hx fun j hj => by omega)
  have HX6 := hide ((unhide HX5).trans hx)
  have HC6 := hide cx6
  clear hf hx cx6 HC5 HX5 hd5 HP4 HU5
  obtain ⟨ks6, vs6, HU⟩ : ∃ ks vs, Hid (Und (fun j => w.heap.size ≤ j) w6 w.heap.size 15 s4 noText 0 S.tl ([]) ks vs) := ⟨_, _, unhide HU6⟩
  have hvs6 : vs6.length ≤ 3000 := by rw [(unhide HU).len]; exact (by simp : ([]).length ≤ 3000)
  obtain ⟨t0, hb⟩ := (unhide HU).cells
  have d5 : w6.cell? ⟨w.heap.size, 5, none⟩ = some ks6 := hcell hb 5
  have g5 := hfroz hb 5
  have hent := ent_block r
  clear hb HU6
  go_wp2_with fail
  go_cut [] (fun wc => ∃ (t : Tree) (S4 : LS) (ks' : Value) (vs' : List Value), Hid (blockP L S6 = .inr (t, S4)) ∧ Cx wc r S4 ∧ Hid (Und (fun j => w.heap.size ≤ j) wc w.heap.size 15 s4 noText 0 S.tl ([] ++ [t]) ks' vs') ∧ Hid (Ext r w wc))
  case first =>
    go_region_law ((first | (refine step_append_lies _ (by rfl) _ _ _ (by rfl) 0 22 i0 (.pointer none) 1 8 Tryz.underlying37 hi hz0 hz1 hz2 rfl (by decide) ks6 vs6.length vs6 (by rfl) ((unhide HO2).alloc _) ⟨w2.heap.size, 0, none⟩ 1 1 [.pointer (some ⟨kb, 0, none⟩)] (by rfl) rfl (cell_one_new _ _ _) (fun u hu => by simp at hu; subst hu; rfl) (by decide) (by unfold maxLen; omega) (by omega) (Nat.zero_le _) (w2.heap.size + 1) (by simp) ?_; intro g cap w3 hown hgrow hat hlt; obtain ⟨e6, f6, HU3, HX3, HC3⟩ := kid_more rfl (unhide HU).drew (unhide HU2) hr0 (unhide HC2) (unhide HX2) (unhide HV2) _ hown hgrow hat; clear hown hgrow hat hlt) | (refine step_call rfl (by simp [Act.eval, hent, go_sem]) (Ret.call (block_any (unhide HC6).drew hd6 (unhide HL)) (fun f w2 hf hx => ⟨rfl, Ret.inl ((unhide HP6).trans (bnd_inl hf)), ((unhide HX6).drew).trans hx⟩) ?_); intro t S1 v w2 hf hv cx1 hx; obtain ⟨kb, rfl⟩ := vNode_ptr hv; obtain ⟨e5, e5a, HO2, HU2⟩ := kid_call (unhide HU).drew hx (by omega); have HV2 := hide hv; have HC2 := hide cx1; have HX2 := hide (((unhide HX6).drew).trans hx); have HF := hide hf; clear hv cx1 hx hf)))
    all_goals
      go_wp2_with fail
      go_meet
      exact ⟨t, _, _, _, unhide HF, unhide HC3, unhide HU3, unhide HX3⟩
  case rest =>
    obtain ⟨t7, S7, ks7, vs7, HF, cx7, HU7, HX7⟩ := hcut
    have hon7 := blockP_good (unhide HL).good _ _ _ (unhide HC6).ok (unhide HF)
    have hd7 : S7.dp = D := hon7.same.dp.trans hd6
    have HP7 := hide ((unhide HP6).trans (bnd_inr (unhide HF)))
    have HC7 := hide cx7
    clear d5 g5 hent HU HX6 HC6 HF cx7 hd6 hvs6 HP6
    go_wp2_with fail
    go_ret
    exact ⟨Ret.inr (unhide HP7) ((unhide HU7).node) (unhide HC7), unhide HX7⟩

set_option maxRecDepth 100000 in
set_option maxHeartbeats 8000000 in
theorem try_any {w : World} {r D : Nat} {S : LS} (cx : Cx w r S) (hD : S.dp = D) {L : Low} (hL : LowC r D L) (hk : S.kd ≠ 0) :
    Calls Tryz.prog 114 #[.pointer (some ⟨r, 0, none⟩)] w fun e w' => Ret (tryP L S) r (vNode w.heap.size) e w' ∧ Ext r w w' := by
  obtain ⟨i0, hi, hz0, hz1, hz2⟩ := info_parts infoNode
  have hr0 := cx.jc.lt
  have HL := hide hL
  clear hL
  have HX0 : Hid (Ext r w w) := Ext.refl r w
  have hd0 := hD
  have HC0 := hide cx
  clear cx
  go_enter Tryz.func114, Tryz.ntmps114
  go_wp2_with fail
  refine Ret.call (taken_any (unhide HC0) 14) ?_ ?_
  · intro f wz hf hx
    exact ⟨rfl, Ret.inl (bnd_inl hf), (unhide HX0).trans hx⟩
  intro a1 S1 v w1 hf hv cx1 hx
  obtain ⟨rfl, hu⟩ := hv
  have HU1 := hide hu
  have hon1 := take_on (unhide HC0).ok hk hf
  have hd1 : S1.dp = D := hon1.same.dp.trans hd0
  have HP1 := hide (show (tryP L S) = _ from bnd_inr hf)
  have HX1 := hide ((unhide HX0).trans hx)
  have HC1 := hide cx1
  clear hf hx cx1 HC0 HX0 hd0 hu
  obtain ⟨ks1, vs1, HU⟩ : ∃ ks vs, Hid (Und (fun j => w.heap.size ≤ j) w1 w.heap.size 14 noText noText 0 S.tl ([]) ks vs) := ⟨_, _, unhide HU1⟩
  have hvs1 : vs1.length ≤ 3000 := by rw [(unhide HU).len]; exact (by simp : ([]).length ≤ 3000)
  obtain ⟨t0, hb⟩ := (unhide HU).cells
  have d5 : w1.cell? ⟨w.heap.size, 5, none⟩ = some ks1 := hcell hb 5
  have g5 := hfroz hb 5
  have hent := ent_block r
  clear hb HU1
  go_wp2_with fail
  go_cut [] (fun wc => ∃ (t : Tree) (S4 : LS) (ks' : Value) (vs' : List Value), Hid (blockP L S1 = .inr (t, S4)) ∧ Cx wc r S4 ∧ Hid (Und (fun j => w.heap.size ≤ j) wc w.heap.size 14 noText noText 0 S.tl ([] ++ [t]) ks' vs') ∧ Hid (Ext r w wc))
  case first =>
    go_region_law ((first | (refine step_append_lies _ (by rfl) _ _ _ (by rfl) 0 22 i0 (.pointer none) 1 8 Tryz.underlying37 hi hz0 hz1 hz2 rfl (by decide) ks1 vs1.length vs1 (by rfl) ((unhide HO2).alloc _) ⟨w2.heap.size, 0, none⟩ 1 1 [.pointer (some ⟨kb, 0, none⟩)] (by rfl) rfl (cell_one_new _ _ _) (fun u hu => by simp at hu; subst hu; rfl) (by decide) (by unfold maxLen; omega) (by omega) (Nat.zero_le _) (w2.heap.size + 1) (by simp) ?_; intro g cap w3 hown hgrow hat hlt; obtain ⟨e6, f6, HU3, HX3, HC3⟩ := kid_more rfl (unhide HU).drew (unhide HU2) hr0 (unhide HC2) (unhide HX2) (unhide HV2) _ hown hgrow hat; clear hown hgrow hat hlt) | (refine step_call rfl (by simp [Act.eval, hent, go_sem]) (Ret.call (block_any (unhide HC1).drew hd1 (unhide HL)) (fun f w2 hf hx => ⟨rfl, Ret.inl ((unhide HP1).trans (bnd_inl hf)), ((unhide HX1).drew).trans hx⟩) ?_); intro t S1 v w2 hf hv cx1 hx; obtain ⟨kb, rfl⟩ := vNode_ptr hv; obtain ⟨e5, e5a, HO2, HU2⟩ := kid_call (unhide HU).drew hx (by omega); have HV2 := hide hv; have HC2 := hide cx1; have HX2 := hide (((unhide HX1).drew).trans hx); have HF := hide hf; clear hv cx1 hx hf)))
    all_goals
      go_wp2_with fail
      go_meet
      exact ⟨t, _, _, _, unhide HF, unhide HC3, unhide HU3, unhide HX3⟩
  case rest =>
    obtain ⟨t2, S2, ks2, vs2, HF, cx2, HU2, HX2⟩ := hcut
    have hon2 := blockP_good (unhide HL).good _ _ _ (unhide HC1).ok (unhide HF)
    have hd2 : S2.dp = D := hon2.same.dp.trans hd1
    have HP2 := hide ((unhide HP1).trans (bnd_inr (unhide HF)))
    have HC2 := hide cx2
    clear d5 g5 hent HU HX1 HC1 HF cx2 hd1 hvs1 HP1
    obtain ⟨ks2, vs2, HU⟩ : ∃ ks vs, Hid (Und (fun j => w.heap.size ≤ j) wc w.heap.size 14 noText noText 0 S.tl ([] ++ [t2]) ks vs) := ⟨_, _, unhide HU2⟩
    have hvs2 : vs2.length ≤ 3000 := by rw [(unhide HU).len]; exact (by simp : ([] ++ [t2]).length ≤ 3000)
    obtain ⟨t0, hb⟩ := (unhide HU).cells
    have d5 : wc.cell? ⟨w.heap.size, 5, none⟩ = some ks2 := hcell hb 5
    have g5 := hfroz hb 5
    have hent := ent_catch r
    clear hb HU2
    go_wp2_with fail
    go_cut [] (fun wc => ∃ (t : Tree) (S4 : LS) (ks' : Value) (vs' : List Value), Hid (catchP L S2 = .inr (t, S4)) ∧ Cx wc r S4 ∧ Hid (Und (fun j => w.heap.size ≤ j) wc w.heap.size 14 noText noText 0 S.tl ([] ++ [t2] ++ [t]) ks' vs') ∧ Hid (Ext r w wc))
    case first =>
      go_region_law ((first | (refine step_append_lies _ (by rfl) _ _ _ (by rfl) 0 22 i0 (.pointer none) 1 8 Tryz.underlying37 hi hz0 hz1 hz2 rfl (by decide) ks2 vs2.length vs2 (by rfl) ((unhide HO2).alloc _) ⟨w2.heap.size, 0, none⟩ 1 1 [.pointer (some ⟨kb, 0, none⟩)] (by rfl) rfl (cell_one_new _ _ _) (fun u hu => by simp at hu; subst hu; rfl) (by decide) (by unfold maxLen; omega) (by omega) (Nat.zero_le _) (w2.heap.size + 1) (by simp) ?_; intro g cap w3 hown hgrow hat hlt; obtain ⟨e6, f6, HU3, HX3, HC3⟩ := kid_more rfl (unhide HU).drew (unhide HU2) hr0 (unhide HC2) (unhide HX2) (unhide HV2) _ hown hgrow hat; clear hown hgrow hat hlt) | (refine step_call rfl (by simp [Act.eval, hent, go_sem]) (Ret.call (catch_any (unhide HC2).drew hd2 (unhide HL)) (fun f w2 hf hx => ⟨rfl, Ret.inl ((unhide HP2).trans (bnd_inl hf)), ((unhide HX2).drew).trans hx⟩) ?_); intro t S1 v w2 hf hv cx1 hx; obtain ⟨kb, rfl⟩ := vNode_ptr hv; obtain ⟨e5, e5a, HO2, HU2⟩ := kid_call (unhide HU).drew hx (by omega); have HV2 := hide hv; have HC2 := hide cx1; have HX2 := hide (((unhide HX2).drew).trans hx); have HF := hide hf; clear hv cx1 hx hf)))
      all_goals
        go_wp2_with fail
        go_meet
        exact ⟨t, _, _, _, unhide HF, unhide HC3, unhide HU3, unhide HX3⟩
    case rest =>
      obtain ⟨t3, S3, ks3, vs3, HF, cx3, HU3, HX3⟩ := hcut
      have hon3 := catchP_good (unhide HL).good _ _ _ (unhide HC2).ok (unhide HF)
      have hd3 : S3.dp = D := hon3.same.dp.trans hd2
      have HP3 := hide ((unhide HP2).trans (bnd_inr (unhide HF)))
      have HC3 := hide cx3
      clear d5 g5 hent HU HX2 HC2 HF cx3 hd2 hvs2 HP2
      go_wp2_with fail
      go_ret
      exact ⟨Ret.inr (unhide HP3) ((unhide HU3).node) (unhide HC3), unhide HX3⟩

end Go.Proofs.YtjcoobkpmpjpbaaGreatDoor

namespace Go.Proofs.YtjcoobkpmpjpbaaGreatDoor
open Go.RowKit
attribute [local go_sem ↓] Go.wp_at_zero Go.wp_at_succ

theorem Ret.mono {α : Type} {t : Res α} {r : Nat} {V V' : α → Value → World → Prop} {e : Ending} {w : World} (hV : ∀ a v, V a v w → V' a v w) (h : Ret t r V e w) : Ret t r V' e w := by
  cases h1 : t with
  | inl f => rw [h1] at h; exact h
  | inr x =>
    rw [h1] at h
    obtain ⟨v, he, hv, hc⟩ := h
    exact ⟨v, he, hV _ _ hv, hc⟩

theorem Cx.setdp {w : World} {r : Nat} {S : LS} (h : Cx w r S) (n : Nat) : Cx (w.setCell ⟨r, 9, none⟩ (.int .i64 n)) r { S with dp := n } :=
  h.ext ((Ext.refl r w).setCell 9 _) (h.rd.set9 n) ⟨⟨h.ok.fit.size, h.ok.fit.pl, h.ok.fit.ln⟩, h.ok.tp, h.ok.tl, h.ok.now⟩ rfl

set_option maxRecDepth 100000 in
set_option maxHeartbeats 4000000 in
theorem deeper_any {w : World} {r D : Nat} {S : LS} (cx : Cx w r S) (hD : S.dp = D) (hD25 : D ≤ 25) (P : LS → Res Tree) (hg : Good P) (hP : ∀ w S, Cx w r S → S.dp = D + 1 → Calls Tryz.prog 93 #[.pointer (some ⟨r, 0, none⟩)] w fun e w' => Ret (P S) r (vNode w.heap.size) e w' ∧ Ext r w w') :
    Calls Tryz.prog 51 #[.pointer (some ⟨r, 0, none⟩), .func (.func 93) #[.pointer (some ⟨r, 0, none⟩)] #[]] w fun e w' => Ret (deepP P S) r (vNode w.heap.size) e w' ∧ Ext r w w' := by
  subst hD
  have c9 := cx.rd.c9
  have f9 := cx.rd.f9
  have hrj := cx.jc.lt
  have HC := hide cx
  have HP := hide hP
  clear cx hP
  by_cases h25 : S.dp = 25
  · have HE := hide (show deepP P S = .inl (4, S.tp) by rw [deepP, if_pos h25])
    have b0 : ((S.dp : Int) == 25) = true := by rw [beq_iff_eq]; omega
    clear h25
    go_enter Tryz.func51, Tryz.ntmps51
    go_wp2_with fail
    refine (fail_any (unhide HC).rd _).mono ?_
    rintro e w3 ⟨rfl, rfl⟩
    exact ⟨rfl, Ret.inl (unhide HE), Ext.refl _ _⟩
  · have HE := hide (show deepP P S = bnd (P { S with dp := S.dp + 1 }) fun t S1 => .inr (t, { S1 with dp := S1.dp - 1 }) by rw [deepP, if_neg h25])
    have b0 : ((S.dp : Int) == 25) = false := by rw [beq_eq_false_iff_ne]; omega
    have hle : S.dp ≤ 25 := by omega
    clear h25
    go_enter Tryz.func51, Tryz.ntmps51
    go_wp2_with fail
    have cx1 : Cx (w.setCell ⟨r, 9, none⟩ (.int .i64 ((S.dp : Int) + 1))) r { S with dp := S.dp + 1 } := (unhide HC).setdp (S.dp + 1)
    have hx1 : Ext r w (w.setCell ⟨r, 9, none⟩ (.int .i64 ((S.dp : Int) + 1))) := (Ext.refl r w).setCell 9 _
    have hsz : (w.setCell ⟨r, 9, none⟩ (.int .i64 ((S.dp : Int) + 1))).heap.size = w.heap.size := by simp
    clear c9 f9
    generalize w.setCell ⟨r, 9, none⟩ (.int .i64 ((S.dp : Int) + 1)) = w1 at *
    refine Ret.call (unhide HP w1 _ cx1 rfl) ?_ ?_
    · intro f w2 hf hx
      exact ⟨rfl, Ret.inl ((unhide HE).trans (bnd_inl hf)), hx1.trans hx⟩
    intro t S1 v w2 hf hv cx2 hx2
    have hon := hg _ _ _ cx1.ok hf
    have hd1 : S1.dp = S.dp + 1 := hon.same.dp
    obtain ⟨kb, rfl⟩ := vNode_ptr hv
    have HE1 := hide ((unhide HE).trans (bnd_inr hf))
    have c9 := cx2.rd.c9
    have f9 := cx2.rd.f9
    have HC2 := hide cx2
    have HX2 := hide (hx1.trans hx2)
    have HV := hide hv
    have hle1 : S1.dp ≤ 26 := by omega
    have hge1 : 1 ≤ S1.dp := by omega
    have HD1 := hide hd1
    have HSZ := hide hsz
    clear hf hon cx1 cx2 hx1 hx2 HE hv hd1 hsz
    go_wp2_with fail
    go_ret
    have e9 : ((S1.dp : Int) - 1) = ((S1.dp - 1 : Nat) : Int) := by omega
    rw [e9]
    refine ⟨Ret.inr (unhide HE1) ?_ ((unhide HC2).setdp _), (unhide HX2).setCell 9 _⟩
    have hv' : vNode w1.heap.size t (.pointer (some ⟨kb, 0, none⟩)) w2 := unhide HV
    rw [unhide HSZ] at hv'
    exact NodeAt.ext (r := r) hv' ((Ext.refl r w2).setCell 9 _) fun j hj => by omega

set_option maxRecDepth 100000 in
set_option maxHeartbeats 4000000 in
theorem deeper_prefixed {w : World} {r D : Nat} {S : LS} (cx : Cx w r S) (hD : S.dp = D) (hD25 : D ≤ 25) (P : LS → Res Tree) (hg : Good P) (hP : ∀ w S, Cx w r S → S.dp = D + 1 → Calls Tryz.prog 31 #[.pointer (some ⟨r, 0, none⟩)] w fun e w' => Ret (P S) r (vNode w.heap.size) e w' ∧ Ext r w w') :
    Calls Tryz.prog 51 #[.pointer (some ⟨r, 0, none⟩), .func (.func 31) #[.pointer (some ⟨r, 0, none⟩)] #[]] w fun e w' => Ret (deepP P S) r (vNode w.heap.size) e w' ∧ Ext r w w' := by
  subst hD
  have c9 := cx.rd.c9
  have f9 := cx.rd.f9
  have hrj := cx.jc.lt
  have HC := hide cx
  have HP := hide hP
  clear cx hP
  by_cases h25 : S.dp = 25
  · have HE := hide (show deepP P S = .inl (4, S.tp) by rw [deepP, if_pos h25])
    have b0 : ((S.dp : Int) == 25) = true := by rw [beq_iff_eq]; omega
    clear h25
    go_enter Tryz.func51, Tryz.ntmps51
    go_wp2_with fail
    refine (fail_any (unhide HC).rd _).mono ?_
    rintro e w3 ⟨rfl, rfl⟩
    exact ⟨rfl, Ret.inl (unhide HE), Ext.refl _ _⟩
  · have HE := hide (show deepP P S = bnd (P { S with dp := S.dp + 1 }) fun t S1 => .inr (t, { S1 with dp := S1.dp - 1 }) by rw [deepP, if_neg h25])
    have b0 : ((S.dp : Int) == 25) = false := by rw [beq_eq_false_iff_ne]; omega
    have hle : S.dp ≤ 25 := by omega
    clear h25
    go_enter Tryz.func51, Tryz.ntmps51
    go_wp2_with fail
    have cx1 : Cx (w.setCell ⟨r, 9, none⟩ (.int .i64 ((S.dp : Int) + 1))) r { S with dp := S.dp + 1 } := (unhide HC).setdp (S.dp + 1)
    have hx1 : Ext r w (w.setCell ⟨r, 9, none⟩ (.int .i64 ((S.dp : Int) + 1))) := (Ext.refl r w).setCell 9 _
    have hsz : (w.setCell ⟨r, 9, none⟩ (.int .i64 ((S.dp : Int) + 1))).heap.size = w.heap.size := by simp
    clear c9 f9
    generalize w.setCell ⟨r, 9, none⟩ (.int .i64 ((S.dp : Int) + 1)) = w1 at *
    refine Ret.call (unhide HP w1 _ cx1 rfl) ?_ ?_
    · intro f w2 hf hx
      exact ⟨rfl, Ret.inl ((unhide HE).trans (bnd_inl hf)), hx1.trans hx⟩
    intro t S1 v w2 hf hv cx2 hx2
    have hon := hg _ _ _ cx1.ok hf
    have hd1 : S1.dp = S.dp + 1 := hon.same.dp
    obtain ⟨kb, rfl⟩ := vNode_ptr hv
    have HE1 := hide ((unhide HE).trans (bnd_inr hf))
    have c9 := cx2.rd.c9
    have f9 := cx2.rd.f9
    have HC2 := hide cx2
    have HX2 := hide (hx1.trans hx2)
    have HV := hide hv
    have hle1 : S1.dp ≤ 26 := by omega
    have hge1 : 1 ≤ S1.dp := by omega
    have HD1 := hide hd1
    have HSZ := hide hsz
    clear hf hon cx1 cx2 hx1 hx2 HE hv hd1 hsz
    go_wp2_with fail
    go_ret
    have e9 : ((S1.dp : Int) - 1) = ((S1.dp - 1 : Nat) : Int) := by omega
    rw [e9]
    refine ⟨Ret.inr (unhide HE1) ?_ ((unhide HC2).setdp _), (unhide HX2).setCell 9 _⟩
    have hv' : vNode w1.heap.size t (.pointer (some ⟨kb, 0, none⟩)) w2 := unhide HV
    rw [unhide HSZ] at hv'
    exact NodeAt.ext (r := r) hv' ((Ext.refl r w2).setCell 9 _) fun j hj => by omega

set_option maxRecDepth 100000 in
set_option maxHeartbeats 4000000 in
theorem deeper_joined {w : World} {r D : Nat} {S : LS} (cx : Cx w r S) (hD : S.dp = D) (hD25 : D ≤ 25) (P : LS → Res Tree) (hg : Good P) (hP : ∀ w S, Cx w r S → S.dp = D + 1 → Calls Tryz.prog 52 #[.pointer (some ⟨jbase r 1 + 2, 0, none⟩), .pointer (some ⟨jbase r 1, 0, none⟩), .pointer (some ⟨jbase r 1 + 1, 0, none⟩)] w fun e w' => Ret (P S) r (vNode w.heap.size) e w' ∧ Ext r w w') :
    Calls Tryz.prog 51 #[.pointer (some ⟨r, 0, none⟩), .func (.func 52) #[] #[.pointer (some ⟨jbase r 1 + 2, 0, none⟩), .pointer (some ⟨jbase r 1, 0, none⟩), .pointer (some ⟨jbase r 1 + 1, 0, none⟩)]] w fun e w' => Ret (deepP P S) r (vNode w.heap.size) e w' ∧ Ext r w w' := by
  subst hD
  have c9 := cx.rd.c9
  have f9 := cx.rd.f9
  have hrj := cx.jc.lt
  have HC := hide cx
  have HP := hide hP
  clear cx hP
  by_cases h25 : S.dp = 25
  · have HE := hide (show deepP P S = .inl (4, S.tp) by rw [deepP, if_pos h25])
    have b0 : ((S.dp : Int) == 25) = true := by rw [beq_iff_eq]; omega
    clear h25
    go_enter Tryz.func51, Tryz.ntmps51
    go_wp2_with fail
    refine (fail_any (unhide HC).rd _).mono ?_
    rintro e w3 ⟨rfl, rfl⟩
    exact ⟨rfl, Ret.inl (unhide HE), Ext.refl _ _⟩
  · have HE := hide (show deepP P S = bnd (P { S with dp := S.dp + 1 }) fun t S1 => .inr (t, { S1 with dp := S1.dp - 1 }) by rw [deepP, if_neg h25])
    have b0 : ((S.dp : Int) == 25) = false := by rw [beq_eq_false_iff_ne]; omega
    have hle : S.dp ≤ 25 := by omega
    clear h25
    go_enter Tryz.func51, Tryz.ntmps51
    go_wp2_with fail
    have cx1 : Cx (w.setCell ⟨r, 9, none⟩ (.int .i64 ((S.dp : Int) + 1))) r { S with dp := S.dp + 1 } := (unhide HC).setdp (S.dp + 1)
    have hx1 : Ext r w (w.setCell ⟨r, 9, none⟩ (.int .i64 ((S.dp : Int) + 1))) := (Ext.refl r w).setCell 9 _
    have hsz : (w.setCell ⟨r, 9, none⟩ (.int .i64 ((S.dp : Int) + 1))).heap.size = w.heap.size := by simp
    clear c9 f9
    generalize w.setCell ⟨r, 9, none⟩ (.int .i64 ((S.dp : Int) + 1)) = w1 at *
    refine Ret.call (unhide HP w1 _ cx1 rfl) ?_ ?_
    · intro f w2 hf hx
      exact ⟨rfl, Ret.inl ((unhide HE).trans (bnd_inl hf)), hx1.trans hx⟩
    intro t S1 v w2 hf hv cx2 hx2
    have hon := hg _ _ _ cx1.ok hf
    have hd1 : S1.dp = S.dp + 1 := hon.same.dp
    obtain ⟨kb, rfl⟩ := vNode_ptr hv
    have HE1 := hide ((unhide HE).trans (bnd_inr hf))
    have c9 := cx2.rd.c9
    have f9 := cx2.rd.f9
    have HC2 := hide cx2
    have HX2 := hide (hx1.trans hx2)
    have HV := hide hv
    have hle1 : S1.dp ≤ 26 := by omega
    have hge1 : 1 ≤ S1.dp := by omega
    have HD1 := hide hd1
    have HSZ := hide hsz
    clear hf hon cx1 cx2 hx1 hx2 HE hv hd1 hsz
    go_wp2_with fail
    go_ret
    have e9 : ((S1.dp : Int) - 1) = ((S1.dp - 1 : Nat) : Int) := by omega
    rw [e9]
    refine ⟨Ret.inr (unhide HE1) ?_ ((unhide HC2).setdp _), (unhide HX2).setCell 9 _⟩
    have hv' : vNode w1.heap.size t (.pointer (some ⟨kb, 0, none⟩)) w2 := unhide HV
    rw [unhide HSZ] at hv'
    exact NodeAt.ext (r := r) hv' ((Ext.refl r w2).setCell 9 _) fun j hj => by omega

end Go.Proofs.YtjcoobkpmpjpbaaGreatDoor

namespace Go.Proofs.YtjcoobkpmpjpbaaGreatDoor
open Go.RowKit
attribute [local go_sem ↓] Go.wp_at_zero Go.wp_at_succ

set_option maxRecDepth 100000 in
set_option maxHeartbeats 8000000 in
theorem leaf_any {w : World} {r D : Nat} {S : LS} (cx : Cx w r S) (hD : S.dp = D) (k : Nat) (hk : S.kd ≠ 0) :
    Calls Tryz.prog 96 #[.pointer (some ⟨r, 0, none⟩), .int .i64 k] w fun e w' => Ret (leafP k S) r (vNode w.heap.size) e w' ∧ Ext r w w' := by
  obtain ⟨i0, hi, hz0, hz1, hz2⟩ := info_parts infoNode
  have hr0 := cx.jc.lt
  have HX0 : Hid (Ext r w w) := Ext.refl r w
  have hd0 := hD
  have HC0 := hide cx
  clear cx
  go_enter Tryz.func96, Tryz.ntmps96
  go_wp2_with fail
  refine (start_calls (unhide HC0) k).mono ?_
  rintro e w1 ⟨v, rfl, ⟨rfl, hu⟩, cx1, hx⟩
  have HU1 := hide hu
  have HX1 := hide ((unhide HX0).trans hx)
  have HC1 := hide cx1
  have hd1 := hd0
  clear hu hx cx1 HC0 HX0
  go_wp2_with fail
  refine Ret.call (take_any (unhide HC1)) ?_ ?_
  · intro f wz hf hx
    exact ⟨rfl, Ret.inl (bnd_inl hf), (unhide HX1).trans hx⟩
  intro a2 S2 v w2 hf hv cx2 hx
  obtain rfl : v = S.tok := hv
  have hon2 := take_on (unhide HC1).ok hk hf
  have hd2 : S2.dp = D := hon2.same.dp.trans hd1
  have HP2 := hide (show (leafP k S) = _ from bnd_inr hf)
  have HU2 := hide ((unhide HU1).ext hx fun j hj => by omega)
  have HX2 := hide ((unhide HX1).trans hx)
  have HC2 := hide cx2
  clear hf hx cx2 HC1 HX1 hd1 HU1
  unfold LS.tok
  obtain ⟨t0, hb⟩ := (unhide HU2).cells
  have dq : w2.cell? ⟨w.heap.size, 1, none⟩ = some (.string noText) := hcell hb 1
  have gq := hfroz hb 1
  clear hb
  obtain ⟨t3, hb3⟩ := (unhide HU2).cells
  have dr : w2.cell? ⟨w.heap.size, 3, none⟩ = some (.int .i64 0) := hcell hb3 3
  have gr := hfroz hb3 3
  have hlt : w.heap.size < w2.heap.size := (Array.getElem?_eq_some_iff.1 hb3).1
  clear hb3
  go_wp2_with fail
  have hbt := hnew w2 (.cells #[.int .i64 S.kd, .int .i64 S.tp, .int .i64 S.tl, .string S.mrk, .string S.tx, .int .i64 S.nn] 82)
  have HU3 := hide ((unhide HU2).ext (r := r) ((Ext.refl r w2).alloc (.cells #[.int .i64 S.kd, .int .i64 S.tp, .int .i64 S.tl, .string S.mrk, .string S.tx, .int .i64 S.nn] 82)) fun j hj => by omega)
  have HX3 := hide ((unhide HX2).alloc (.cells #[.int .i64 S.kd, .int .i64 S.tp, .int .i64 S.tl, .string S.mrk, .string S.tx, .int .i64 S.nn] 82))
  have HC3 := hide ((unhide HC2).alloc (.cells #[.int .i64 S.kd, .int .i64 S.tp, .int .i64 S.tl, .string S.mrk, .string S.tx, .int .i64 S.nn] 82))
  clear dq gq dr gr HU2 HX2 HC2
  generalize w2.alloc (.cells #[.int .i64 S.kd, .int .i64 S.tp, .int .i64 S.tl, .string S.mrk, .string S.tx, .int .i64 S.nn] 82) = w3 at *
  obtain ⟨t3, hb3⟩ := (unhide HU3).cells
  have d1 : w3.cell? ⟨w.heap.size, 1, none⟩ = some (.string noText) := hcell hb3 1
  have d3 : w3.cell? ⟨w.heap.size, 3, none⟩ = some (.int .i64 0) := hcell hb3 3
  have g1 := hfroz hb3 1
  have g3 := hfroz hb3 3
  have d4 : w3.cell? ⟨w2.heap.size, 4, none⟩ = some (.string S.tx) := hcell hbt 4
  have d5 : w3.cell? ⟨w2.heap.size, 5, none⟩ = some (.int .i64 S.nn) := hcell hbt 5
  clear hb3 hbt
  go_region_held3 (fun w' => w'.cell? ⟨w2.heap.size, 4, none⟩ = some (.string S.tx) ∧ w'.cell? ⟨w2.heap.size, 5, none⟩ = some (.int .i64 S.nn)) ((refine ⟨?_, ?_⟩ <;> simp [World.cell?_setCell_other, d4, d5])) (fail)
  go_wp2_with fail
  go_ret
  have hu4 := (((unhide HU3).put 1 (.string S.tx) (tx' := S.tx) rfl).put 3 (.int .i64 S.nn) (n' := S.nn) rfl)
  refine ⟨Ret.inr (unhide HP2) ?_ (((unhide HC3).setCell hr0 1 (.string S.tx)).setCell hr0 3 (.int .i64 S.nn)).drew, (((unhide HX3).setNew ⟨w.heap.size, 1, none⟩ (Nat.le_refl _) _).setNew ⟨w.heap.size, 3, none⟩ (Nat.le_refl _) _).drew⟩
  exact hu4.drew.node

set_option maxRecDepth 100000 in
set_option maxHeartbeats 8000000 in
theorem args_any {w : World} {r D : Nat} {S : LS} (cx : Cx w r S) (hD : S.dp = D) {L : Low} (hL : LowC r D L) :
    Calls Tryz.prog 79 #[.pointer (some ⟨r, 0, none⟩)] w fun e w' => Ret (argsP L S) r (vList w.heap.size) e w' ∧ Ext r w w' := by
  obtain ⟨i0, hi, hz0, hz1, hz2⟩ := info_parts infoNode
  have hr0 := cx.jc.lt
  have HL := hide hL
  clear hL
  have HX0 : Hid (Ext r w w) := Ext.refl r w
  have hd0 := hD
  have HC0 := hide cx
  clear cx
  go_enter Tryz.func79, Tryz.ntmps79
  go_wp2_with fail
  refine Ret.call (listed_any (unhide HC0) hd0 tShut _ _ L.V (value_part (unhide HL))) ?_ ?_
  · intro f wz hf hx
    exact ⟨rfl, Ret.inl hf, hx⟩
  intro ts S1 v w1 hf hv cx1 hx
  have HF := hide (show argsP L S = _ from hf)
  have HV := hide hv
  obtain ⟨vs, hl, -⟩ := hv
  obtain ⟨la, lcap, rfl⟩ := hl.form
  clear hf hl
  go_wp2_with fail
  go_ret
  exact ⟨Ret.inr (unhide HF) (unhide HV) cx1, hx⟩

set_option maxRecDepth 100000 in
set_option maxHeartbeats 8000000 in
theorem named_any {w : World} {r D : Nat} {S : LS} (cx : Cx w r S) (hD : S.dp = D) {L : Low} (hL : LowC r D L) {w0 : World} {k ln : Nat} (hx0 : Ext r w0 w) (hr0 : r + 18 < w0.heap.size) (hu0 : Und (fun j => w0.heap.size ≤ j) w w0.heap.size k noText noText 0 ln [] (.slice none 0 0) []) :
    Calls Tryz.prog 117 #[.pointer (some ⟨r, 0, none⟩), .pointer (some ⟨w0.heap.size, 0, none⟩)] w fun e w' => Ret (namedP L k ln S) r (fun t v w' => v = .pointer (some ⟨w0.heap.size, 0, none⟩) ∧ vNode w0.heap.size t v w') e w' ∧ Ext r w0 w' := by
  obtain ⟨i0, hi, hz0, hz1, hz2⟩ := info_parts infoNode
  have HL := hide hL
  clear hL
  have HX0 := hide hx0
  clear hx0
  have HU0 := hide hu0
  clear hu0
  have hd0 := hD
  have HC0 := hide cx
  clear cx
  go_enter Tryz.func117, Tryz.ntmps117
  go_wp2_with fail
  refine Ret.call (name_any (unhide HC0)) ?_ ?_
  · intro f wz hf hx
    exact ⟨rfl, Ret.inl (bnd_inl hf), (unhide HX0).trans hx⟩
  intro s1 S1 v w1 hf hv cx1 hx
  obtain rfl : v = .string s1 := hv
  have hon1 := name_on (unhide HC0).ok hf
  have hlt1 : w0.heap.size < w1.heap.size := by
    obtain ⟨t0, hb⟩ := ((unhide HU0).ext hx fun j hj => by omega).cells
    exact (Array.getElem?_eq_some_iff.1 hb).1
  have hd1 : S1.dp = D := hon1.same.dp.trans hd0
  have HP1 := hide (show (namedP L k ln S) = _ from bnd_inr hf)
  have HU1 := hide ((unhide HU0).ext hx fun j hj => by omega)
  have HX1 := hide ((unhide HX0).trans hx)
  have HC1 := hide cx1
  clear hf hx cx1 HC0 HX0 hd0 HU0
  obtain ⟨t0, hb⟩ := (unhide HU1).cells
  have dq : w1.cell? ⟨w0.heap.size, 1, none⟩ = some (.string noText) := hcell hb 1
  have gq := hfroz hb 1
  clear hb
  have HU2 := hide ((unhide HU1).put 1 (.string s1) (tx' := s1) rfl)
  have HX2 := hide ((unhide HX1).setNew ⟨w0.heap.size, 1, none⟩ (Nat.le_refl _) (.string s1))
  have HC2 := hide ((unhide HC1).setCell hr0 1 (.string s1))
  have hd2 := hd1
  clear HU1 HX1 HC1
  go_wp2_with fail
  refine Ret.call (want_any (unhide HC2) tOpen) ?_ ?_
  · intro f wz hf hx
    exact ⟨rfl, Ret.inl ((unhide HP1).trans (bnd_inl hf)), (unhide HX2).trans hx⟩
  intro a3 S3 v w3 hf hv cx3 hx
  obtain rfl : v = .tuple #[] := hv
  have hon3 := want_on (unhide HC2).ok hf
  have hd3 : S3.dp = D := hon3.same.dp.trans hd2
  have HP3 := hide ((unhide HP1).trans (bnd_inr hf))
  have HU3 := hide ((unhide HU2).ext hx fun j hj => by omega)
  have HX3 := hide ((unhide HX2).trans hx)
  have HC3 := hide cx3
  clear hf hx cx3 HC2 HX2 hd2 HP1 HU2
  have hlt3 : w0.heap.size < w3.heap.size := by
    obtain ⟨t0, hb⟩ := (unhide HU3).cells
    exact (Array.getElem?_eq_some_iff.1 hb).1
  go_wp2_with fail
  refine Ret.call (args_any (unhide HC3) hd3 (unhide HL)) ?_ ?_
  · intro f wz hf hx
    exact ⟨rfl, Ret.inl ((unhide HP3).trans (bnd_inl hf)), (unhide HX3).trans hx⟩
  intro us4 S4 v w4 hf hv cx4 hx
  have hon4 := listedP_good (unhide HL).good.v _ _ _ (unhide HC3).ok hf
  have hd4 : S4.dp = D := hon4.same.dp.trans hd3
  have HP4 := hide ((unhide HP3).trans (bnd_inr hf))
  have HU4 := hide ((unhide HU3).ext hx fun j hj => by omega)
  have HX4 := hide ((unhide HX3).trans hx)
  have HC4 := hide cx4
  clear hf hx cx4 HC3 HX3 hd3 HP3 HU3
  obtain ⟨vs, hl, -⟩ := hv
  obtain ⟨la, lcap, rfl⟩ := hl.form
  have HU9 := hide ((unhide HU4).setKids hl hlt3)
  obtain ⟨t0, hb⟩ := (unhide HU4).cells
  have dq : w4.cell? ⟨w0.heap.size, 5, none⟩ = some (.slice none 0 0) := hcell hb 5
  have gq := hfroz hb 5
  clear hb
  clear hl
  go_wp2_with fail
  go_ret
  exact ⟨Ret.inr (unhide HP4) ⟨rfl, (unhide HU9).node⟩ ((unhide HC4).setCell hr0 _ _), (unhide HX4).setNew ⟨w0.heap.size, 5, none⟩ (Nat.le_refl _) _⟩

end Go.Proofs.YtjcoobkpmpjpbaaGreatDoor

namespace Go.Proofs.YtjcoobkpmpjpbaaGreatDoor
open Go.RowKit
attribute [local go_sem ↓] Go.wp_at_zero Go.wp_at_succ

theorem is_c {w : World} {r : Nat} {S : LS} (h : Rd w r S) (m : ByteArray) {b : Bool} (hb : S.is m = b) :
    Calls Tryz.prog 48 #[.pointer (some ⟨r, 0, none⟩), .string m] w fun e w' => e = .returned (.bool b) ∧ w = w' :=
  (is_calls h m hb).mono fun _ _ ⟨h1, h2⟩ => ⟨h1, h2.symm⟩

set_option maxRecDepth 100000 in
set_option maxHeartbeats 4000000 in
theorem constant_any {w : World} {r : Nat} {S : LS} (cx : Cx w r S) :
    Calls Tryz.prog 97 #[.pointer (some ⟨r, 0, none⟩)] w fun e w' => e = .returned (.int .i64 (constP S)) ∧ w = w' := by
  cases hb0 : S.is wTrue with
  | true =>
    have HP := hide (show constP S = 20 by rw [constP, if_pos hb0])
    go_enter Tryz.func97, Tryz.ntmps97
    go_wp2_with fail
    refine (is_c cx.rd wTrue hb0).mono ?_
    rintro e wz ⟨rfl, rfl⟩
    go_wp2_with fail
    go_ret
    rw [unhide HP]
    exact ⟨rfl, rfl⟩
  | false =>
    cases hb1 : S.is wFalse with
    | true =>
      have HP := hide (show constP S = 21 by rw [constP, if_neg (by rw [hb0]; decide), if_pos hb1])
      go_enter Tryz.func97, Tryz.ntmps97
      go_wp2_with fail
      refine (is_c cx.rd wTrue hb0).mono ?_
      rintro e wz ⟨rfl, rfl⟩
      go_wp2_with fail
      refine (is_c cx.rd wFalse hb1).mono ?_
      rintro e wz ⟨rfl, rfl⟩
      go_wp2_with fail
      go_ret
      rw [unhide HP]
      exact ⟨rfl, rfl⟩
    | false =>
      cases hb2 : S.is wNil with
      | true =>
        have HP := hide (show constP S = 22 by rw [constP, if_neg (by rw [hb0]; decide), if_neg (by rw [hb1]; decide), if_pos hb2])
        go_enter Tryz.func97, Tryz.ntmps97
        go_wp2_with fail
        refine (is_c cx.rd wTrue hb0).mono ?_
        rintro e wz ⟨rfl, rfl⟩
        go_wp2_with fail
        refine (is_c cx.rd wFalse hb1).mono ?_
        rintro e wz ⟨rfl, rfl⟩
        go_wp2_with fail
        refine (is_c cx.rd wNil hb2).mono ?_
        rintro e wz ⟨rfl, rfl⟩
        go_wp2_with fail
        go_ret
        rw [unhide HP]
        exact ⟨rfl, rfl⟩
      | false =>
        cases hb3 : S.is wThis with
        | true =>
          have HP := hide (show constP S = 23 by rw [constP, if_neg (by rw [hb0]; decide), if_neg (by rw [hb1]; decide), if_neg (by rw [hb2]; decide), if_pos hb3])
          go_enter Tryz.func97, Tryz.ntmps97
          go_wp2_with fail
          refine (is_c cx.rd wTrue hb0).mono ?_
          rintro e wz ⟨rfl, rfl⟩
          go_wp2_with fail
          refine (is_c cx.rd wFalse hb1).mono ?_
          rintro e wz ⟨rfl, rfl⟩
          go_wp2_with fail
          refine (is_c cx.rd wNil hb2).mono ?_
          rintro e wz ⟨rfl, rfl⟩
          go_wp2_with fail
          refine (is_c cx.rd wThis hb3).mono ?_
          rintro e wz ⟨rfl, rfl⟩
          go_wp2_with fail
          go_ret
          rw [unhide HP]
          exact ⟨rfl, rfl⟩
        | false =>
          have HP := hide (show constP S = 0 by rw [constP, if_neg (by rw [hb0]; decide), if_neg (by rw [hb1]; decide), if_neg (by rw [hb2]; decide), if_neg (by rw [hb3]; decide)])
          go_enter Tryz.func97, Tryz.ntmps97
          go_wp2_with fail
          refine (is_c cx.rd wTrue hb0).mono ?_
          rintro e wz ⟨rfl, rfl⟩
          go_wp2_with fail
          refine (is_c cx.rd wFalse hb1).mono ?_
          rintro e wz ⟨rfl, rfl⟩
          go_wp2_with fail
          refine (is_c cx.rd wNil hb2).mono ?_
          rintro e wz ⟨rfl, rfl⟩
          go_wp2_with fail
          refine (is_c cx.rd wThis hb3).mono ?_
          rintro e wz ⟨rfl, rfl⟩
          go_wp2_with fail
          go_ret
          rw [unhide HP]
          exact ⟨rfl, rfl⟩
end Go.Proofs.YtjcoobkpmpjpbaaGreatDoor

namespace Go.Proofs.YtjcoobkpmpjpbaaGreatDoor
open Go.RowKit
attribute [local go_sem ↓] Go.wp_at_zero Go.wp_at_succ

set_option maxRecDepth 100000 in
set_option maxHeartbeats 8000000 in
theorem marked_any_0 {w : World} {r D : Nat} {S : LS} (cx : Cx w r S) (hD : S.dp = D) {L : Low} (hL : LowC r D L) (hb0 : S.is tOpen = true) :
    Calls Tryz.prog 98 #[.pointer (some ⟨r, 0, none⟩)] w fun e w' => Ret (inParP L S) r (vNode w.heap.size) e w' ∧ Ext r w w' := by
  obtain ⟨i0, hi, hz0, hz1, hz2⟩ := info_parts infoNode
  have hr0 := cx.jc.lt
  have HL := hide hL
  clear hL
  have HX0 : Hid (Ext r w w) := Ext.refl r w
  have hd0 := hD
  have HC0 := hide cx
  clear cx
  go_enter Tryz.func98, Tryz.ntmps98
  have hk := is_kd hb0
  go_wp2_with fail
  refine (is_c (unhide HC0).rd tOpen hb0).mono ?_
  rintro e wz ⟨rfl, rfl⟩
  go_wp2_with fail
  refine Ret.call (inPar_any (unhide HC0) hd0 (unhide HL)) ?_ ?_
  · intro f wz hf hx
    exact ⟨rfl, Ret.inl (hf), (unhide HX0).trans hx⟩
  intro t9 S9 v w9 hf hv cx9 hx9
  obtain ⟨kb, rfl⟩ := vNode_ptr hv
  have HP9 := hide (hf)
  have HV9 := hide hv
  clear hf hv
  go_wp2_with fail
  go_ret
  exact ⟨Ret.inr (unhide HP9) (unhide HV9) cx9, (unhide HX0).trans hx9⟩

end Go.Proofs.YtjcoobkpmpjpbaaGreatDoor

namespace Go.Proofs.YtjcoobkpmpjpbaaGreatDoor
open Go.RowKit
attribute [local go_sem ↓] Go.wp_at_zero Go.wp_at_succ

set_option maxRecDepth 100000 in
set_option maxHeartbeats 8000000 in
theorem marked_any_1 {w : World} {r D : Nat} {S : LS} (cx : Cx w r S) (hD : S.dp = D) {L : Low} (hL : LowC r D L) (hb0 : S.is tOpen = false) (hb1 : S.is tSquare = true) :
    Calls Tryz.prog 98 #[.pointer (some ⟨r, 0, none⟩)] w fun e w' => Ret (bnd (takeP S) fun _ S1 => bnd (listedP tSquared L.V S1) fun us S2 => (.inr (nd 27 S.tl us, S2) : Res Tree)) r (vNode w.heap.size) e w' ∧ Ext r w w' := by
  obtain ⟨i0, hi, hz0, hz1, hz2⟩ := info_parts infoNode
  have hr0 := cx.jc.lt
  have HL := hide hL
  clear hL
  have HX0 : Hid (Ext r w w) := Ext.refl r w
  have hd0 := hD
  have HC0 := hide cx
  clear cx
  go_enter Tryz.func98, Tryz.ntmps98
  have hk := is_kd hb1
  go_wp2_with fail
  refine (is_c (unhide HC0).rd tOpen hb0).mono ?_
  rintro e wz ⟨rfl, rfl⟩
  go_wp2_with fail
  refine (is_c (unhide HC0).rd tSquare hb1).mono ?_
  rintro e wz ⟨rfl, rfl⟩
  go_wp2_with fail
  refine Ret.call (taken_any (unhide HC0) 27) ?_ ?_
  · intro f wz hf hx
    exact ⟨rfl, Ret.inl (bnd_inl hf), (unhide HX0).trans hx⟩
  intro a1 S1 v w1 hf hv cx1 hx
  obtain ⟨rfl, hu⟩ := hv
  have HU1 := hide hu
  have hon1 := take_on (unhide HC0).ok hk hf
  have hd1 : S1.dp = D := hon1.same.dp.trans hd0
  have HP1 := hide (show (bnd (takeP S) fun _ S1 => bnd (listedP tSquared L.V S1) fun us S2 => (.inr (nd 27 S.tl us, S2) : Res Tree)) = _ from bnd_inr hf)
  have HX1 := hide ((unhide HX0).trans hx)
  have HC1 := hide cx1
  clear hf hx cx1 HC0 HX0 hd0 hu
  have hlt : w.heap.size < w1.heap.size := by
    obtain ⟨t0, hb⟩ := (unhide HU1).cells
    exact (Array.getElem?_eq_some_iff.1 hb).1
  go_wp2_with fail
  refine Ret.call (listed_any (unhide HC1) hd1 tSquared _ _ L.V (value_part (unhide HL))) ?_ ?_
  · intro f wz hf hx
    exact ⟨rfl, Ret.inl ((unhide HP1).trans (bnd_inl hf)), (unhide HX1).trans hx⟩
  intro us2 S2 v w2 hf hv cx2 hx
  have hon2 := listedP_good (unhide HL).good.v _ _ _ (unhide HC1).ok hf
  have hd2 : S2.dp = D := hon2.same.dp.trans hd1
  have HP2 := hide ((unhide HP1).trans (bnd_inr hf))
  have HU2 := hide ((unhide HU1).ext hx fun j hj => by omega)
  have HX2 := hide ((unhide HX1).trans hx)
  have HC2 := hide cx2
  clear hf hx cx2 HC1 HX1 hd1 HP1 HU1
  obtain ⟨vs, hl, -⟩ := hv
  obtain ⟨la, lcap, rfl⟩ := hl.form
  have HU9 := hide ((unhide HU2).setKids hl hlt)
  obtain ⟨t0, hb⟩ := (unhide HU2).cells
  have dq : w2.cell? ⟨w.heap.size, 5, none⟩ = some (.slice none 0 0) := hcell hb 5
  have gq := hfroz hb 5
  clear hb
  clear hl
  go_wp2_with fail
  go_ret
  exact ⟨Ret.inr (unhide HP2) (unhide HU9).node ((unhide HC2).setCell hr0 _ _), (unhide HX2).setNew ⟨w.heap.size, 5, none⟩ (Nat.le_refl _) _⟩

end Go.Proofs.YtjcoobkpmpjpbaaGreatDoor
