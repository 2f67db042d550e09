/-
  Fields, variables, what is returned, parentheses.
  Statements with blocks.
  One deeper.
-/
import Derived.Test.YtndgajlidckcdaaGreatDoorB08
namespace Go.Proofs.YtndgajlidckcdaaGreatDoor
open Go.RowKit
attribute [local go_sem ↓] Go.wp_at_zero Go.wp_at_succ

theorem limit_on0 {S S' : LS} {n : Nat} {a : Unit} (ok : Ok S) (h : limitP n S = .inr (a, S')) : On0 S S' := by
  rw [limit_on h]; exact On0.refl ok
theorem reads_value {r D : Nat} {L : Low} (hL : LowC r D L) {S : LS} (hd : S.dp = D) : Reads r 172 #[.pointer (some ⟨r, 0, none⟩)] L.V S := fun w cx => hL.v w S cx hd

set_option maxRecDepth 100000 in
set_option maxHeartbeats 8000000 in
theorem field_any {w : World} {r D : Nat} {S : LS} (cx : Cx w r S) (hD : S.dp = D) (n : Nat) (hk : S.kd ≠ 0) :
    Calls Tryz.prog 184 #[.pointer (some ⟨r, 0, none⟩), .int .i64 n] w fun e w' => Ret (fieldP n S) r (vNode w.heap.size) e w' ∧ Ext r w w' := by
  obtain ⟨i0, hi, hz0, hz1, hz2⟩ := info_parts infoNode
  have hr0 := cx.jc.lt
  have HX0 : Hid (Ext r w w) := Ext.refl r w
  have hd0 := hD
  have HC0 := hide cx
  clear cx
  go_enter Tryz.func184, Tryz.ntmps184
  go_wp2_with fail
  refine Ret.call (taken_any (unhide HC0) 3) ?_ ?_
  · intro f wz hf hx
    exact ⟨rfl, Ret.inl (bnd_inl hf), (unhide HX0).trans hx⟩
  intro a1 S1 v w1 hf hv cx1 hx
  obtain ⟨rfl, hu⟩ := hv
  have HU1 := hide hu
  have hon1 := take_on (unhide HC0).ok hk hf
  have hd1 : S1.dp = D := hon1.same.dp.trans hd0
  have HP1 := hide (show fieldP n S = _ from bnd_inr hf)
  have HX1 := hide ((unhide HX0).trans hx)
  have HC1 := hide cx1
  clear hf hx cx1 HC0 HX0 hd0 hu
  go_wp2_with fail
  refine Ret.call (limit_calls (unhide HC1) n) ?_ ?_
  · intro f wz hf hx
    exact ⟨rfl, Ret.inl ((unhide HP1).trans (bnd_inl hf)), (unhide HX1).trans hx⟩
  intro a2 S2 v w2 hf hv cx2 hx
  obtain rfl : v = .tuple #[] := hv
  have hon2 := limit_on0 (unhide HC1).ok hf
  have hd2 : S2.dp = D := hon2.same.dp.trans hd1
  have HP2 := hide ((unhide HP1).trans (bnd_inr hf))
  have HU2 := hide ((unhide HU1).ext hx fun j hj => by omega)
  have HX2 := hide ((unhide HX1).trans hx)
  have HC2 := hide cx2
  clear hf hx cx2 HC1 HX1 hd1 HP1 HU1
  go_wp2_with fail
  refine Ret.call (name_any (unhide HC2)) ?_ ?_
  · intro f wz hf hx
    exact ⟨rfl, Ret.inl ((unhide HP2).trans (bnd_inl hf)), (unhide HX2).trans hx⟩
  intro s3 S3 v w3 hf hv cx3 hx
  obtain rfl : v = .string s3 := hv
  have hon3 := name_on (unhide HC2).ok hf
  have hd3 : S3.dp = D := hon3.same.dp.trans hd2
  have HP3 := hide ((unhide HP2).trans (bnd_inr hf))
  have HU3 := hide ((unhide HU2).ext hx fun j hj => by omega)
  have HX3 := hide ((unhide HX2).trans hx)
  have HC3 := hide cx3
  clear hf hx cx3 HC2 HX2 hd2 HP2 HU2
  obtain ⟨t0, hb⟩ := (unhide HU3).cells
  have dq : w3.cell? ⟨w.heap.size, 1, none⟩ = some (.string noText) := hcell hb 1
  have gq := hfroz hb 1
  clear hb
  have HU4 := hide ((unhide HU3).put 1 (.string s3) (tx' := s3) rfl)
  have HX4 := hide ((unhide HX3).setNew ⟨w.heap.size, 1, none⟩ (Nat.le_refl _) (.string s3))
  have HC4 := hide ((unhide HC3).setCell hr0 1 (.string s3))
  have hd4 := hd3
  clear HU3 HX3 HC3
  go_wp2_with fail
  refine Ret.call (want_any (unhide HC4) tSemi) ?_ ?_
  · intro f wz hf hx
    exact ⟨rfl, Ret.inl ((unhide HP3).trans (bnd_inl hf)), (unhide HX4).trans hx⟩
  intro a5 S5 v w5 hf hv cx5 hx
  obtain rfl : v = .tuple #[] := hv
  have hon5 := want_on (unhide HC4).ok hf
  have hd5 : S5.dp = D := hon5.same.dp.trans hd4
  have HP5 := hide ((unhide HP3).trans (bnd_inr hf))
  have HU5 := hide ((unhide HU4).ext hx fun j hj => by omega)
  have HX5 := hide ((unhide HX4).trans hx)
  have HC5 := hide cx5
  clear hf hx cx5 HC4 HX4 hd4 HP3 HU4
  go_wp2_with fail
  go_ret
  exact ⟨Ret.inr (unhide HP5) ((unhide HU5).node) (unhide HC5), unhide HX5⟩

set_option maxRecDepth 100000 in
set_option maxHeartbeats 8000000 in
theorem variable_any {w : World} {r D : Nat} {S : LS} (cx : Cx w r S) (hD : S.dp = D) {L : Low} (hL : LowC r D L) (hk : S.kd ≠ 0) :
    Calls Tryz.prog 217 #[.pointer (some ⟨r, 0, none⟩)] w fun e w' => Ret (variableP L S) r (vNode w.heap.size) e w' ∧ Ext r w w' := by
  obtain ⟨i0, hi, hz0, hz1, hz2⟩ := info_parts infoNode
  have hr0 := cx.jc.lt
  have HL := hide hL
  clear hL
  have HX0 : Hid (Ext r w w) := Ext.refl r w
  have hd0 := hD
  have HC0 := hide cx
  clear cx
  go_enter Tryz.func217, Tryz.ntmps217
  go_wp2_with fail
  refine Ret.call (taken_any (unhide HC0) 8) ?_ ?_
  · intro f wz hf hx
    exact ⟨rfl, Ret.inl (bnd_inl hf), (unhide HX0).trans hx⟩
  intro a1 S1 v w1 hf hv cx1 hx
  obtain ⟨rfl, hu⟩ := hv
  have HU1 := hide hu
  have hon1 := take_on (unhide HC0).ok hk hf
  have hd1 : S1.dp = D := hon1.same.dp.trans hd0
  have HP1 := hide (show variableP L S = _ from bnd_inr hf)
  have HX1 := hide ((unhide HX0).trans hx)
  have HC1 := hide cx1
  clear hf hx cx1 HC0 HX0 hd0 hu
  go_wp2_with fail
  refine Ret.call (name_any (unhide HC1)) ?_ ?_
  · intro f wz hf hx
    exact ⟨rfl, Ret.inl ((unhide HP1).trans (bnd_inl hf)), (unhide HX1).trans hx⟩
  intro s2 S2 v w2 hf hv cx2 hx
  obtain rfl : v = .string s2 := hv
  have hon2 := name_on (unhide HC1).ok hf
  have hd2 : S2.dp = D := hon2.same.dp.trans hd1
  have HP2 := hide ((unhide HP1).trans (bnd_inr hf))
  have HU2 := hide ((unhide HU1).ext hx fun j hj => by omega)
  have HX2 := hide ((unhide HX1).trans hx)
  have HC2 := hide cx2
  clear hf hx cx2 HC1 HX1 hd1 HP1 HU1
  obtain ⟨t0, hb⟩ := (unhide HU2).cells
  have dq : w2.cell? ⟨w.heap.size, 1, none⟩ = some (.string noText) := hcell hb 1
  have gq := hfroz hb 1
  clear hb
  have HU3 := hide ((unhide HU2).put 1 (.string s2) (tx' := s2) rfl)
  have HX3 := hide ((unhide HX2).setNew ⟨w.heap.size, 1, none⟩ (Nat.le_refl _) (.string s2))
  have HC3 := hide ((unhide HC2).setCell hr0 1 (.string s2))
  have hd3 := hd2
  clear HU2 HX2 HC2
  go_wp2_with fail
  refine Ret.call (want_any (unhide HC3) tEqual) ?_ ?_
  · intro f wz hf hx
    exact ⟨rfl, Ret.inl ((unhide HP2).trans (bnd_inl hf)), (unhide HX3).trans hx⟩
  intro a4 S4 v w4 hf hv cx4 hx
  obtain rfl : v = .tuple #[] := hv
  have hon4 := want_on (unhide HC3).ok hf
  have hd4 : S4.dp = D := hon4.same.dp.trans hd3
  have HP4 := hide ((unhide HP2).trans (bnd_inr hf))
  have HU4 := hide ((unhide HU3).ext hx fun j hj => by omega)
  have HX4 := hide ((unhide HX3).trans hx)
  have HC4 := hide cx4
  clear hf hx cx4 HC3 HX3 hd3 HP2 HU3
  go_wp2_with fail
  refine Ret.callX (X := Ext r w) (closed_any (unhide HC4) (unhide HX4) hr0 (unhide HU4) (by simp) _ _ _ (reads_value (unhide HL) hd4) ((value_part (unhide HL)).ent)) ?_ ?_
  · intro f wz hf hx
    exact ⟨rfl, Ret.inl ((unhide HP4).trans (bnd_inl hf)), hx⟩
  intro t9 S9 v w9 hf hv cx9 hx9
  obtain ⟨rfl, ks, vs, hu9⟩ := hv
  have HP9 := hide ((unhide HP4).trans (bnd_inr hf))
  clear hf
  go_wp2_with fail
  go_ret
  exact ⟨Ret.inr (unhide HP9) hu9.node cx9, hx9⟩

set_option maxRecDepth 100000 in
set_option maxHeartbeats 8000000 in
theorem inPar_any {w : World} {r D : Nat} {S : LS} (cx : Cx w r S) (hD : S.dp = D) {L : Low} (hL : LowC r D L) :
    Calls Tryz.prog 222 #[.pointer (some ⟨r, 0, none⟩)] w fun e w' => Ret (inParP L S) r (vNode w.heap.size) e w' ∧ Ext r w w' := by
  obtain ⟨i0, hi, hz0, hz1, hz2⟩ := info_parts infoNode
  have hr0 := cx.jc.lt
  have HL := hide hL
  clear hL
  have HX0 : Hid (Ext r w w) := Ext.refl r w
  have hd0 := hD
  have HC0 := hide cx
  clear cx
  go_enter Tryz.func222, Tryz.ntmps222
  go_wp2_with fail
  refine Ret.call (want_any (unhide HC0) tOpen) ?_ ?_
  · intro f wz hf hx
    exact ⟨rfl, Ret.inl (bnd_inl hf), (unhide HX0).trans hx⟩
  intro a1 S1 v w1 hf hv cx1 hx
  obtain rfl : v = .tuple #[] := hv
  have hon1 := want_on (unhide HC0).ok hf
  have hd1 : S1.dp = D := hon1.same.dp.trans hd0
  have HP1 := hide (show inParP L S = _ from bnd_inr hf)
  have HX1 := hide ((unhide HX0).trans hx)
  have HC1 := hide cx1
  clear hf hx cx1 HC0 HX0 hd0
  go_wp2_with fail
  refine Ret.call ((unhide HL).v _ _ (unhide HC1) hd1) ?_ ?_
  · intro f wz hf hx
    exact ⟨rfl, Ret.inl ((unhide HP1).trans (bnd_inl hf)), (unhide HX1).trans hx⟩
  intro t2 S2 v w2 hf hv cx2 hx
  obtain ⟨kb, rfl⟩ := vNode_ptr hv
  have HV2 := hide hv
  have hsz2 := (unhide HX1).size
  have hon2 := (unhide HL).good.v _ _ _ (unhide HC1).ok hf
  have hd2 : S2.dp = D := hon2.same.dp.trans hd1
  have HP2 := hide ((unhide HP1).trans (bnd_inr hf))
  have HX2 := hide ((unhide HX1).trans hx)
  have HC2 := hide cx2
  clear hf hx cx2 HC1 HX1 hd1 HP1 hv
  go_wp2_with fail
  refine Ret.call (want_any (unhide HC2) tShut) ?_ ?_
  · intro f wz hf hx
    exact ⟨rfl, Ret.inl ((unhide HP2).trans (bnd_inl hf)), (unhide HX2).trans hx⟩
  intro a3 S3 v w3 hf hv cx3 hx
  obtain rfl : v = .tuple #[] := hv
  have hon3 := want_on (unhide HC2).ok hf
  have hd3 : S3.dp = D := hon3.same.dp.trans hd2
  have HP3 := hide ((unhide HP2).trans (bnd_inr hf))
  have HVV : Hid (vNode w.heap.size t2 _ w3) := NodeAt.mono (NodeAt.ext (unhide HV2) hx fun j hj => by omega) fun j hj => by omega
  have HX3 := hide ((unhide HX2).trans hx)
  have HC3 := hide cx3
  clear hf hx cx3 HC2 HX2 hd2 HP2
  go_wp2_with fail
  go_ret
  exact ⟨Ret.inr (unhide HP3) (unhide HVV) (unhide HC3), unhide HX3⟩

set_option maxRecDepth 100000 in
set_option maxHeartbeats 8000000 in
theorem returned_any {w : World} {r D : Nat} {S : LS} (cx : Cx w r S) (hD : S.dp = D) {L : Low} (hL : LowC r D L) (hk : S.kd ≠ 0) :
    Calls Tryz.prog 220 #[.pointer (some ⟨r, 0, none⟩)] w fun e w' => Ret (returnedP L S) r (vNode w.heap.size) e w' ∧ Ext r w w' := by
  obtain ⟨i0, hi, hz0, hz1, hz2⟩ := info_parts infoNode
  have hr0 := cx.jc.lt
  have HL := hide hL
  clear hL
  have HX0 : Hid (Ext r w w) := Ext.refl r w
  have hd0 := hD
  have HC0 := hide cx
  clear cx
  go_enter Tryz.func220, Tryz.ntmps220
  go_wp2_with fail
  refine Ret.call (taken_any (unhide HC0) 12) ?_ ?_
  · intro f wz hf hx
    exact ⟨rfl, Ret.inl (bnd_inl hf), (unhide HX0).trans hx⟩
  intro a1 S1 v w1 hf hv cx1 hx
  obtain ⟨rfl, hu⟩ := hv
  have HU1 := hide hu
  have hon1 := take_on (unhide HC0).ok hk hf
  have hd1 : S1.dp = D := hon1.same.dp.trans hd0
  have HP1 := hide (show returnedP L S = _ from bnd_inr hf)
  have HX1 := hide ((unhide HX0).trans hx)
  have HC1 := hide cx1
  clear hf hx cx1 HC0 HX0 hd0 hu
  go_wp2_with fail
  refine Ret.call (accept_any (unhide HC1) tSemi) ?_ ?_
  · intro f wz hf hx
    exact ⟨rfl, Ret.inl ((unhide HP1).trans (bnd_inl hf)), (unhide HX1).trans hx⟩
  intro b2 S2 v w2 hf hv cx2 hx
  obtain rfl : v = .bool b2 := hv
  have hon2 := (accept_on (unhide HC1).ok hf).1
  have hd2 : S2.dp = D := hon2.same.dp.trans hd1
  have HP2 := hide ((unhide HP1).trans (bnd_inr hf))
  have HU2 := hide ((unhide HU1).ext hx fun j hj => by omega)
  have HX2 := hide ((unhide HX1).trans hx)
  have HC2 := hide cx2
  clear hf hx cx2 HC1 HX1 hd1 HP1 HU1
  cases b2 with
  | true =>
    have HPt : Hid (returnedP L S = .inr (nd 12 S.tl [], S2)) := unhide HP2
    clear HP2
    go_wp2_with fail
    go_ret
    exact ⟨Ret.inr (unhide HPt) ((unhide HU2).node) (unhide HC2), unhide HX2⟩
  | false =>
    have HPf : Hid (returnedP L S = bnd (closeP L.V S2) fun t S3 => .inr (nd 12 S.tl [t], S3)) := unhide HP2
    clear HP2
    go_wp2_with fail
    refine Ret.callX (X := Ext r w) (closed_any (unhide HC2) (unhide HX2) hr0 (unhide HU2) (by simp) _ _ _ (reads_value (unhide HL) hd2) ((value_part (unhide HL)).ent)) ?_ ?_
    · intro f wz hf hx
      exact ⟨rfl, Ret.inl ((unhide HPf).trans (bnd_inl hf)), hx⟩
    intro t9 S9 v w9 hf hv cx9 hx9
    obtain ⟨rfl, ks, vs, hu9⟩ := hv
    have HP9 := hide ((unhide HPf).trans (bnd_inr hf))
    clear hf
    go_wp2_with fail
    go_ret
    exact ⟨Ret.inr (unhide HP9) hu9.node cx9, hx9⟩

end Go.Proofs.YtndgajlidckcdaaGreatDoor

namespace Go.Proofs.YtndgajlidckcdaaGreatDoor
open Go.RowKit
attribute [local go_sem ↓] Go.wp_at_zero Go.wp_at_succ

theorem ent_par (r : Nat) : ∀ w : World, Sem.run Tryz.prog (callFunc 222 #[.pointer (some ⟨r, 0, none⟩)]) w = .ok (.enter 222 #[.pointer (some ⟨r, 0, none⟩)]) w := fun _ => by kernel_rfl
theorem ent_catch (r : Nat) : ∀ w : World, Sem.run Tryz.prog (callFunc 243 #[.pointer (some ⟨r, 0, none⟩)]) w = .ok (.enter 243 #[.pointer (some ⟨r, 0, none⟩)]) w := fun _ => by kernel_rfl

set_option maxRecDepth 100000 in
set_option maxHeartbeats 8000000 in
theorem guarded_any {w : World} {r D : Nat} {S : LS} (cx : Cx w r S) (hD : S.dp = D) {L : Low} (hL : LowC r D L) (k : Nat) (hk : S.kd ≠ 0) :
    Calls Tryz.prog 219 #[.pointer (some ⟨r, 0, none⟩), .int .i64 k] w fun e w' => Ret (guardedP L k S) r (vNode w.heap.size) e w' ∧ Ext r w w' := by
  obtain ⟨i0, hi, hz0, hz1, hz2⟩ := info_parts infoNode
  have hr0 := cx.jc.lt
  have HL := hide hL
  clear hL
  have HX0 : Hid (Ext r w w) := Ext.refl r w
  have hd0 := hD
  have HC0 := hide cx
  clear cx
  go_enter Tryz.func219, Tryz.ntmps219
  go_wp2_with fail
  refine Ret.call (taken_any (unhide HC0) k) ?_ ?_
  · intro f wz hf hx
    exact ⟨rfl, Ret.inl (bnd_inl hf), (unhide HX0).trans hx⟩
  intro a1 S1 v w1 hf hv cx1 hx
  obtain ⟨rfl, hu⟩ := hv
  have HU1 := hide hu
  have hon1 := take_on (unhide HC0).ok hk hf
  have hd1 : S1.dp = D := hon1.same.dp.trans hd0
  have HP1 := hide (show (guardedP L k S) = _ from bnd_inr hf)
  have HX1 := hide ((unhide HX0).trans hx)
  have HC1 := hide cx1
  clear hf hx cx1 HC0 HX0 hd0 hu
  obtain ⟨ks1, vs1, HU⟩ : ∃ ks vs, Hid (Und (fun j => w.heap.size ≤ j) w1 w.heap.size k noText noText 0 S.tl ([]) ks vs) := ⟨_, _, unhide HU1⟩
  have hvs1 : vs1.length ≤ 3000 := by rw [(unhide HU).len]; exact (by simp : ([]).length ≤ 3000)
  obtain ⟨t0, hb⟩ := (unhide HU).cells
  have d5 : w1.cell? ⟨w.heap.size, 5, none⟩ = some ks1 := hcell hb 5
  have g5 := hfroz hb 5
  have hent := ent_par r
  clear hb HU1
  go_wp2_with fail
  go_cut [] (fun wc => ∃ (t : Tree) (S4 : LS) (ks' : Value) (vs' : List Value), Hid (inParP L S1 = .inr (t, S4)) ∧ Cx wc r S4 ∧ Hid (Und (fun j => w.heap.size ≤ j) wc w.heap.size k noText noText 0 S.tl ([] ++ [t]) ks' vs') ∧ Hid (Ext r w wc))
  case first =>
    go_region_law ((first | (refine step_append_lies _ (by rfl) _ _ _ (by rfl) 0 22 i0 (.pointer none) 1 8 Tryz.underlying51 hi hz0 hz1 hz2 rfl (by decide) ks1 vs1.length vs1 (by rfl) ((unhide HO2).alloc _) ⟨w2.heap.size, 0, none⟩ 1 1 [.pointer (some ⟨kb, 0, none⟩)] (by rfl) rfl (cell_one_new _ _ _) (fun u hu => by simp at hu; subst hu; rfl) (by decide) (by unfold maxLen; omega) (by omega) (Nat.zero_le _) (w2.heap.size + 1) (by simp) ?_; intro g cap w3 hown hgrow hat hlt; obtain ⟨e6, f6, HU3, HX3, HC3⟩ := kid_more rfl (unhide HU).drew (unhide HU2) hr0 (unhide HC2) (unhide HX2) (unhide HV2) _ hown hgrow hat; clear hown hgrow hat hlt) | (refine step_call rfl (by simp [Act.eval, hent, go_sem]) (Ret.call (inPar_any (unhide HC1).drew hd1 (unhide HL)) (fun f w2 hf hx => ⟨rfl, Ret.inl ((unhide HP1).trans (bnd_inl hf)), ((unhide HX1).drew).trans hx⟩) ?_); intro t S1 v w2 hf hv cx1 hx; obtain ⟨kb, rfl⟩ := vNode_ptr hv; obtain ⟨e5, e5a, HO2, HU2⟩ := kid_call (unhide HU).drew hx (by omega); have HV2 := hide hv; have HC2 := hide cx1; have HX2 := hide (((unhide HX1).drew).trans hx); have HF := hide hf; clear hv cx1 hx hf)))
    all_goals
      go_wp2_with fail
      go_meet
      exact ⟨t, _, _, _, unhide HF, unhide HC3, unhide HU3, unhide HX3⟩
  case rest =>
    obtain ⟨t2, S2, ks2, vs2, HF, cx2, HU2, HX2⟩ := hcut
    have hon2 := inParP_good (unhide HL).good _ _ _ (unhide HC1).ok (unhide HF)
    have hd2 : S2.dp = D := hon2.same.dp.trans hd1
    have HP2 := hide ((unhide HP1).trans (bnd_inr (unhide HF)))
    have HC2 := hide cx2
    clear d5 g5 hent HU HX1 HC1 HF cx2 hd1 hvs1 HP1
    obtain ⟨ks2, vs2, HU⟩ : ∃ ks vs, Hid (Und (fun j => w.heap.size ≤ j) wc w.heap.size k noText noText 0 S.tl ([] ++ [t2]) ks vs) := ⟨_, _, unhide HU2⟩
    have hvs2 : vs2.length ≤ 3000 := by rw [(unhide HU).len]; exact (by simp : ([] ++ [t2]).length ≤ 3000)
    obtain ⟨t0, hb⟩ := (unhide HU).cells
    have d5 : wc.cell? ⟨w.heap.size, 5, none⟩ = some ks2 := hcell hb 5
    have g5 := hfroz hb 5
    have hent := ent_block r
    clear hb HU2
    go_wp2_with fail
    go_cut [] (fun wc => ∃ (t : Tree) (S4 : LS) (ks' : Value) (vs' : List Value), Hid (blockP L S2 = .inr (t, S4)) ∧ Cx wc r S4 ∧ Hid (Und (fun j => w.heap.size ≤ j) wc w.heap.size k noText noText 0 S.tl ([] ++ [t2] ++ [t]) ks' vs') ∧ Hid (Ext r w wc))
    case first =>
      go_region_law ((first | (refine step_append_lies _ (by rfl) _ _ _ (by rfl) 0 22 i0 (.pointer none) 1 8 Tryz.underlying51 hi hz0 hz1 hz2 rfl (by decide) ks2 vs2.length vs2 (by rfl) ((unhide HO2).alloc _) ⟨w2.heap.size, 0, none⟩ 1 1 [.pointer (some ⟨kb, 0, none⟩)] (by rfl) rfl (cell_one_new _ _ _) (fun u hu => by simp at hu; subst hu; rfl) (by decide) (by unfold maxLen; omega) (by omega) (Nat.zero_le _) (w2.heap.size + 1) (by simp) ?_; intro g cap w3 hown hgrow hat hlt; obtain ⟨e6, f6, HU3, HX3, HC3⟩ := kid_more rfl (unhide HU).drew (unhide HU2) hr0 (unhide HC2) (unhide HX2) (unhide HV2) _ hown hgrow hat; clear hown hgrow hat hlt) | (refine step_call rfl (by simp [Act.eval, hent, go_sem]) (Ret.call (block_any (unhide HC2).drew hd2 (unhide HL)) (fun f w2 hf hx => ⟨rfl, Ret.inl ((unhide HP2).trans (bnd_inl hf)), ((unhide HX2).drew).trans hx⟩) ?_); intro t S1 v w2 hf hv cx1 hx; obtain ⟨kb, rfl⟩ := vNode_ptr hv; obtain ⟨e5, e5a, HO2, HU2⟩ := kid_call (unhide HU).drew hx (by omega); have HV2 := hide hv; have HC2 := hide cx1; have HX2 := hide (((unhide HX2).drew).trans hx); have HF := hide hf; clear hv cx1 hx hf)))
      all_goals
        go_wp2_with fail
        go_meet
        exact ⟨t, _, _, _, unhide HF, unhide HC3, unhide HU3, unhide HX3⟩
    case rest =>
      obtain ⟨t3, S3, ks3, vs3, HF, cx3, HU3, HX3⟩ := hcut
      have hon3 := blockP_good (unhide HL).good _ _ _ (unhide HC2).ok (unhide HF)
      have hd3 : S3.dp = D := hon3.same.dp.trans hd2
      have HP3 := hide ((unhide HP2).trans (bnd_inr (unhide HF)))
      have HC3 := hide cx3
      clear d5 g5 hent HU HX2 HC2 HF cx3 hd2 hvs2 HP2
      go_wp2_with fail
      go_ret
      exact ⟨Ret.inr (unhide HP3) ((unhide HU3).node) (unhide HC3), unhide HX3⟩

/-- A node with two kids that may get more. -/
def vGrd (lo ln k : Nat) (t : Tree) (v : Value) (w' : World) : Prop := v = .pointer (some ⟨lo, 0, none⟩) ∧ ∃ c b ks vs, t = nd k ln [c, b] ∧ Und (fun j => lo ≤ j) w' lo k noText noText 0 ln [c, b] ks vs

set_option maxRecDepth 100000 in
set_option maxHeartbeats 8000000 in
theorem guarded_und {w : World} {r D : Nat} {S : LS} (cx : Cx w r S) (hD : S.dp = D) {L : Low} (hL : LowC r D L) (k : Nat) (hk : S.kd ≠ 0) :
    Calls Tryz.prog 219 #[.pointer (some ⟨r, 0, none⟩), .int .i64 k] w fun e w' => Ret (guardedP L k S) r (vGrd w.heap.size S.tl k) e w' ∧ Ext r w w' := by
  obtain ⟨i0, hi, hz0, hz1, hz2⟩ := info_parts infoNode
  have hr0 := cx.jc.lt
  have HL := hide hL
  clear hL
  have HX0 : Hid (Ext r w w) := Ext.refl r w
  have hd0 := hD
  have HC0 := hide cx
  clear cx
  go_enter Tryz.func219, Tryz.ntmps219
  go_wp2_with fail
  refine Ret.call (taken_any (unhide HC0) k) ?_ ?_
  · intro f wz hf hx
    exact ⟨rfl, Ret.inl (bnd_inl hf), (unhide HX0).trans hx⟩
  intro a1 S1 v w1 hf hv cx1 hx
  obtain ⟨rfl, hu⟩ := hv
  have HU1 := hide hu
  have hon1 := take_on (unhide HC0).ok hk hf
  have hd1 : S1.dp = D := hon1.same.dp.trans hd0
  have HP1 := hide (show (guardedP L k S) = _ from bnd_inr hf)
  have HX1 := hide ((unhide HX0).trans hx)
  have HC1 := hide cx1
  clear hf hx cx1 HC0 HX0 hd0 hu
  obtain ⟨ks1, vs1, HU⟩ : ∃ ks vs, Hid (Und (fun j => w.heap.size ≤ j) w1 w.heap.size k noText noText 0 S.tl ([]) ks vs) := ⟨_, _, unhide HU1⟩
  have hvs1 : vs1.length ≤ 3000 := by rw [(unhide HU).len]; exact (by simp : ([]).length ≤ 3000)
  obtain ⟨t0, hb⟩ := (unhide HU).cells
  have d5 : w1.cell? ⟨w.heap.size, 5, none⟩ = some ks1 := hcell hb 5
  have g5 := hfroz hb 5
  have hent := ent_par r
  clear hb HU1
  go_wp2_with fail
  go_cut [] (fun wc => ∃ (t : Tree) (S4 : LS) (ks' : Value) (vs' : List Value), Hid (inParP L S1 = .inr (t, S4)) ∧ Cx wc r S4 ∧ Hid (Und (fun j => w.heap.size ≤ j) wc w.heap.size k noText noText 0 S.tl ([] ++ [t]) ks' vs') ∧ Hid (Ext r w wc))
  case first =>
    go_region_law ((first | (refine step_append_lies _ (by rfl) _ _ _ (by rfl) 0 22 i0 (.pointer none) 1 8 Tryz.underlying51 hi hz0 hz1 hz2 rfl (by decide) ks1 vs1.length vs1 (by rfl) ((unhide HO2).alloc _) ⟨w2.heap.size, 0, none⟩ 1 1 [.pointer (some ⟨kb, 0, none⟩)] (by rfl) rfl (cell_one_new _ _ _) (fun u hu => by simp at hu; subst hu; rfl) (by decide) (by unfold maxLen; omega) (by omega) (Nat.zero_le _) (w2.heap.size + 1) (by simp) ?_; intro g cap w3 hown hgrow hat hlt; obtain ⟨e6, f6, HU3, HX3, HC3⟩ := kid_more rfl (unhide HU).drew (unhide HU2) hr0 (unhide HC2) (unhide HX2) (unhide HV2) _ hown hgrow hat; clear hown hgrow hat hlt) | (refine step_call rfl (by simp [Act.eval, hent, go_sem]) (Ret.call (inPar_any (unhide HC1).drew hd1 (unhide HL)) (fun f w2 hf hx => ⟨rfl, Ret.inl ((unhide HP1).trans (bnd_inl hf)), ((unhide HX1).drew).trans hx⟩) ?_); intro t S1 v w2 hf hv cx1 hx; obtain ⟨kb, rfl⟩ := vNode_ptr hv; obtain ⟨e5, e5a, HO2, HU2⟩ := kid_call (unhide HU).drew hx (by omega); have HV2 := hide hv; have HC2 := hide cx1; have HX2 := hide (((unhide HX1).drew).trans hx); have HF := hide hf; clear hv cx1 hx hf)))
    all_goals
      go_wp2_with fail
      go_meet
      exact ⟨t, _, _, _, unhide HF, unhide HC3, unhide HU3, unhide HX3⟩
  case rest =>
    obtain ⟨t2, S2, ks2, vs2, HF, cx2, HU2, HX2⟩ := hcut
    have hon2 := inParP_good (unhide HL).good _ _ _ (unhide HC1).ok (unhide HF)
    have hd2 : S2.dp = D := hon2.same.dp.trans hd1
    have HP2 := hide ((unhide HP1).trans (bnd_inr (unhide HF)))
    have HC2 := hide cx2
    clear d5 g5 hent HU HX1 HC1 HF cx2 hd1 hvs1 HP1
    obtain ⟨ks2, vs2, HU⟩ : ∃ ks vs, Hid (Und (fun j => w.heap.size ≤ j) wc w.heap.size k noText noText 0 S.tl ([] ++ [t2]) ks vs) := ⟨_, _, unhide HU2⟩
    have hvs2 : vs2.length ≤ 3000 := by rw [(unhide HU).len]; exact (by simp : ([] ++ [t2]).length ≤ 3000)
    obtain ⟨t0, hb⟩ := (unhide HU).cells
    have d5 : wc.cell? ⟨w.heap.size, 5, none⟩ = some ks2 := hcell hb 5
    have g5 := hfroz hb 5
    have hent := ent_block r
    clear hb HU2
    go_wp2_with fail
    go_cut [] (fun wc => ∃ (t : Tree) (S4 : LS) (ks' : Value) (vs' : List Value), Hid (blockP L S2 = .inr (t, S4)) ∧ Cx wc r S4 ∧ Hid (Und (fun j => w.heap.size ≤ j) wc w.heap.size k noText noText 0 S.tl ([] ++ [t2] ++ [t]) ks' vs') ∧ Hid (Ext r w wc))
    case first =>
      go_region_law ((first | (refine step_append_lies _ (by rfl) _ _ _ (by rfl) 0 22 i0 (.pointer none) 1 8 Tryz.underlying51 hi hz0 hz1 hz2 rfl (by decide) ks2 vs2.length vs2 (by rfl) ((unhide HO2).alloc _) ⟨w2.heap.size, 0, none⟩ 1 1 [.pointer (some ⟨kb, 0, none⟩)] (by rfl) rfl (cell_one_new _ _ _) (fun u hu => by simp at hu; subst hu; rfl) (by decide) (by unfold maxLen; omega) (by omega) (Nat.zero_le _) (w2.heap.size + 1) (by simp) ?_; intro g cap w3 hown hgrow hat hlt; obtain ⟨e6, f6, HU3, HX3, HC3⟩ := kid_more rfl (unhide HU).drew (unhide HU2) hr0 (unhide HC2) (unhide HX2) (unhide HV2) _ hown hgrow hat; clear hown hgrow hat hlt) | (refine step_call rfl (by simp [Act.eval, hent, go_sem]) (Ret.call (block_any (unhide HC2).drew hd2 (unhide HL)) (fun f w2 hf hx => ⟨rfl, Ret.inl ((unhide HP2).trans (bnd_inl hf)), ((unhide HX2).drew).trans hx⟩) ?_); intro t S1 v w2 hf hv cx1 hx; obtain ⟨kb, rfl⟩ := vNode_ptr hv; obtain ⟨e5, e5a, HO2, HU2⟩ := kid_call (unhide HU).drew hx (by omega); have HV2 := hide hv; have HC2 := hide cx1; have HX2 := hide (((unhide HX2).drew).trans hx); have HF := hide hf; clear hv cx1 hx hf)))
      all_goals
        go_wp2_with fail
        go_meet
        exact ⟨t, _, _, _, unhide HF, unhide HC3, unhide HU3, unhide HX3⟩
    case rest =>
      obtain ⟨t3, S3, ks3, vs3, HF, cx3, HU3, HX3⟩ := hcut
      have hon3 := blockP_good (unhide HL).good _ _ _ (unhide HC2).ok (unhide HF)
      have hd3 : S3.dp = D := hon3.same.dp.trans hd2
      have HP3 := hide ((unhide HP2).trans (bnd_inr (unhide HF)))
      have HC3 := hide cx3
      clear d5 g5 hent HU HX2 HC2 HF cx3 hd2 hvs2 HP2
      go_wp2_with fail
      go_ret
      exact ⟨Ret.inr (unhide HP3) (⟨rfl, t2, t3, _, _, rfl, unhide HU3⟩) (unhide HC3), unhide HX3⟩

set_option maxRecDepth 100000 in
set_option maxHeartbeats 8000000 in
theorem catch_any {w : World} {r D : Nat} {S : LS} (cx : Cx w r S) (hD : S.dp = D) {L : Low} (hL : LowC r D L) :
    Calls Tryz.prog 243 #[.pointer (some ⟨r, 0, none⟩)] w fun e w' => Ret (catchP L S) r (vNode w.heap.size) e w' ∧ Ext r w w' := by
  obtain ⟨i0, hi, hz0, hz1, hz2⟩ := info_parts infoNode
  have hr0 := cx.jc.lt
  have HL := hide hL
  clear hL
  have HX0 : Hid (Ext r w w) := Ext.refl r w
  have hd0 := hD
  have HC0 := hide cx
  clear cx
  go_enter Tryz.func243, Tryz.ntmps243
  go_wp2_with fail
  refine (start_calls (unhide HC0) 15).mono ?_
  rintro e w1 ⟨v, rfl, ⟨rfl, hu⟩, cx1, hx⟩
  have HU1 := hide hu
  have HX1 := hide ((unhide HX0).trans hx)
  have HC1 := hide cx1
  have hd1 := hd0
  clear hu hx cx1 HC0 HX0
  go_wp2_with fail
  refine Ret.call (want_any (unhide HC1) wCatch) ?_ ?_
  · intro f wz hf hx
    exact ⟨rfl, Ret.inl (bnd_inl hf), (unhide HX1).trans hx⟩
  intro a2 S2 v w2 hf hv cx2 hx
  obtain rfl : v = .tuple #[] := hv
  have hon2 := want_on (unhide HC1).ok hf
  have hd2 : S2.dp = D := hon2.same.dp.trans hd1
  have HP2 := hide (show (catchP L S) = _ from bnd_inr hf)
  have HU2 := hide ((unhide HU1).ext hx fun j hj => by omega)
  have HX2 := hide ((unhide HX1).trans hx)
  have HC2 := hide cx2
  clear hf hx cx2 HC1 HX1 hd1 HU1
  go_wp2_with fail
  refine Ret.call (want_any (unhide HC2) tOpen) ?_ ?_
  · intro f wz hf hx
    exact ⟨rfl, Ret.inl ((unhide HP2).trans (bnd_inl hf)), (unhide HX2).trans hx⟩
  intro a3 S3 v w3 hf hv cx3 hx
  obtain rfl : v = .tuple #[] := hv
  have hon3 := want_on (unhide HC2).ok hf
  have hd3 : S3.dp = D := hon3.same.dp.trans hd2
  have HP3 := hide ((unhide HP2).trans (bnd_inr hf))
  have HU3 := hide ((unhide HU2).ext hx fun j hj => by omega)
  have HX3 := hide ((unhide HX2).trans hx)
  have HC3 := hide cx3
  clear hf hx cx3 HC2 HX2 hd2 HP2 HU2
  go_wp2_with fail
  refine Ret.call (name_any (unhide HC3)) ?_ ?_
  · intro f wz hf hx
    exact ⟨rfl, Ret.inl ((unhide HP3).trans (bnd_inl hf)), (unhide HX3).trans hx⟩
  intro s4 S4 v w4 hf hv cx4 hx
  obtain rfl : v = .string s4 := hv
  have hon4 := name_on (unhide HC3).ok hf
  have hd4 : S4.dp = D := hon4.same.dp.trans hd3
  have HP4 := hide ((unhide HP3).trans (bnd_inr hf))
  have HU4 := hide ((unhide HU3).ext hx fun j hj => by omega)
  have HX4 := hide ((unhide HX3).trans hx)
  have HC4 := hide cx4
  clear hf hx cx4 HC3 HX3 hd3 HP3 HU3
  obtain ⟨t0, hb⟩ := (unhide HU4).cells
  have dq : w4.cell? ⟨w.heap.size, 1, none⟩ = some (.string noText) := hcell hb 1
  have gq := hfroz hb 1
  clear hb
  have HU5 := hide ((unhide HU4).put 1 (.string s4) (tx' := s4) rfl)
  have HX5 := hide ((unhide HX4).setNew ⟨w.heap.size, 1, none⟩ (Nat.le_refl _) (.string s4))
  have HC5 := hide ((unhide HC4).setCell hr0 1 (.string s4))
  have hd5 := hd4
  clear HU4 HX4 HC4
  go_wp2_with fail
  refine Ret.call (want_any (unhide HC5) tShut) ?_ ?_
  · intro f wz hf hx
    exact ⟨rfl, Ret.inl ((unhide HP4).trans (bnd_inl hf)), (unhide HX5).trans hx⟩
  intro a6 S6 v w6 hf hv cx6 hx
  obtain rfl : v = .tuple #[] := hv
  have hon6 := want_on (unhide HC5).ok hf
  have hd6 : S6.dp = D := hon6.same.dp.trans hd5
  have HP6 := hide ((unhide HP4).trans (bnd_inr hf))
  have HU6 := hide ((unhide HU5).ext hx fun j hj => by omega)
  have HX6 := hide ((unhide HX5).trans hx)
  have HC6 := hide cx6
  clear hf hx cx6 HC5 HX5 hd5 HP4 HU5
  obtain ⟨ks6, vs6, HU⟩ : ∃ ks vs, Hid (Und (fun j => w.heap.size ≤ j) w6 w.heap.size 15 s4 noText 0 S.tl ([]) ks vs) := ⟨_, _, unhide HU6⟩
  have hvs6 : vs6.length ≤ 3000 := by rw [(unhide HU).len]; exact (by simp : ([]).length ≤ 3000)
  obtain ⟨t0, hb⟩ := (unhide HU).cells
  have d5 : w6.cell? ⟨w.heap.size, 5, none⟩ = some ks6 := hcell hb 5
  have g5 := hfroz hb 5
  have hent := ent_block r
  clear hb HU6
  go_wp2_with fail
  go_cut [] (fun wc => ∃ (t : Tree) (S4 : LS) (ks' : Value) (vs' : List Value), Hid (blockP L S6 = .inr (t, S4)) ∧ Cx wc r S4 ∧ Hid (Und (fun j => w.heap.size ≤ j) wc w.heap.size 15 s4 noText 0 S.tl ([] ++ [t]) ks' vs') ∧ Hid (Ext r w wc))
  case first =>
    go_region_law ((first | (refine step_append_lies _ (by rfl) _ _ _ (by rfl) 0 22 i0 (.pointer none) 1 8 Tryz.underlying51 hi hz0 hz1 hz2 rfl (by decide) ks6 vs6.length vs6 (by rfl) ((unhide HO2).alloc _) ⟨w2.heap.size, 0, none⟩ 1 1 [.pointer (some ⟨kb, 0, none⟩)] (by rfl) rfl (cell_one_new _ _ _) (fun u hu => by simp at hu; subst hu; rfl) (by decide) (by unfold maxLen; omega) (by omega) (Nat.zero_le _) (w2.heap.size + 1) (by simp) ?_; intro g cap w3 hown hgrow hat hlt; obtain ⟨e6, f6, HU3, HX3, HC3⟩ := kid_more rfl (unhide HU).drew (unhide HU2) hr0 (unhide HC2) (unhide HX2) (unhide HV2) _ hown hgrow hat; clear hown hgrow hat hlt) | (refine step_call rfl (by simp [Act.eval, hent, go_sem]) (Ret.call (block_any (unhide HC6).drew hd6 (unhide HL)) (fun f w2 hf hx => ⟨rfl, Ret.inl ((unhide HP6).trans (bnd_inl hf)), ((unhide HX6).drew).trans hx⟩) ?_); intro t S1 v w2 hf hv cx1 hx; obtain ⟨kb, rfl⟩ := vNode_ptr hv; obtain ⟨e5, e5a, HO2, HU2⟩ := kid_call (unhide HU).drew hx (by omega); have HV2 := hide hv; have HC2 := hide cx1; have HX2 := hide (((unhide HX6).drew).trans hx); have HF := hide hf; clear hv cx1 hx hf)))
    all_goals
      go_wp2_with fail
      go_meet
      exact ⟨t, _, _, _, unhide HF, unhide HC3, unhide HU3, unhide HX3⟩
  case rest =>
    obtain ⟨t7, S7, ks7, vs7, HF, cx7, HU7, HX7⟩ := hcut
    have hon7 := blockP_good (unhide HL).good _ _ _ (unhide HC6).ok (unhide HF)
    have hd7 : S7.dp = D := hon7.same.dp.trans hd6
    have HP7 := hide ((unhide HP6).trans (bnd_inr (unhide HF)))
    have HC7 := hide cx7
    clear d5 g5 hent HU HX6 HC6 HF cx7 hd6 hvs6 HP6
    go_wp2_with fail
    go_ret
    exact ⟨Ret.inr (unhide HP7) ((unhide HU7).node) (unhide HC7), unhide HX7⟩

set_option maxRecDepth 100000 in
set_option maxHeartbeats 8000000 in
theorem try_any {w : World} {r D : Nat} {S : LS} (cx : Cx w r S) (hD : S.dp = D) {L : Low} (hL : LowC r D L) (hk : S.kd ≠ 0) :
    Calls Tryz.prog 223 #[.pointer (some ⟨r, 0, none⟩)] w fun e w' => Ret (tryP L S) r (vNode w.heap.size) e w' ∧ Ext r w w' := by
  obtain ⟨i0, hi, hz0, hz1, hz2⟩ := info_parts infoNode
  have hr0 := cx.jc.lt
  have HL := hide hL
  clear hL
  have HX0 : Hid (Ext r w w) := Ext.refl r w
  have hd0 := hD
  have HC0 := hide cx
  clear cx
  go_enter Tryz.func223, Tryz.ntmps223
  go_wp2_with fail
  refine Ret.call (taken_any (unhide HC0) 14) ?_ ?_
  · intro f wz hf hx
    exact ⟨rfl, Ret.inl (bnd_inl hf), (unhide HX0).trans hx⟩
  intro a1 S1 v w1 hf hv cx1 hx
  obtain ⟨rfl, hu⟩ := hv
  have HU1 := hide hu
  have hon1 := take_on (unhide HC0).ok hk hf
  have hd1 : S1.dp = D := hon1.same.dp.trans hd0
  have HP1 := hide (show (tryP L S) = _ from bnd_inr hf)
  have HX1 := hide ((unhide HX0).trans hx)
  have HC1 := hide cx1
  clear hf hx cx1 HC0 HX0 hd0 hu
  obtain ⟨ks1, vs1, HU⟩ : ∃ ks vs, Hid (Und (fun j => w.heap.size ≤ j) w1 w.heap.size 14 noText noText 0 S.tl ([]) ks vs) := ⟨_, _, unhide HU1⟩
  have hvs1 : vs1.length ≤ 3000 := by rw [(unhide HU).len]; exact (by simp : ([]).length ≤ 3000)
  obtain ⟨t0, hb⟩ := (unhide HU).cells
  have d5 : w1.cell? ⟨w.heap.size, 5, none⟩ = some ks1 := hcell hb 5
  have g5 := hfroz hb 5
  have hent := ent_block r
  clear hb HU1
  go_wp2_with fail
  go_cut [] (fun wc => ∃ (t : Tree) (S4 : LS) (ks' : Value) (vs' : List Value), Hid (blockP L S1 = .inr (t, S4)) ∧ Cx wc r S4 ∧ Hid (Und (fun j => w.heap.size ≤ j) wc w.heap.size 14 noText noText 0 S.tl ([] ++ [t]) ks' vs') ∧ Hid (Ext r w wc))
  case first =>
    go_region_law ((first | (refine step_append_lies _ (by rfl) _ _ _ (by rfl) 0 22 i0 (.pointer none) 1 8 Tryz.underlying51 hi hz0 hz1 hz2 rfl (by decide) ks1 vs1.length vs1 (by rfl) ((unhide HO2).alloc _) ⟨w2.heap.size, 0, none⟩ 1 1 [.pointer (some ⟨kb, 0, none⟩)] (by rfl) rfl (cell_one_new _ _ _) (fun u hu => by simp at hu; subst hu; rfl) (by decide) (by unfold maxLen; omega) (by omega) (Nat.zero_le _) (w2.heap.size + 1) (by simp) ?_; intro g cap w3 hown hgrow hat hlt; obtain ⟨e6, f6, HU3, HX3, HC3⟩ := kid_more rfl (unhide HU).drew (unhide HU2) hr0 (unhide HC2) (unhide HX2) (unhide HV2) _ hown hgrow hat; clear hown hgrow hat hlt) | (refine step_call rfl (by simp [Act.eval, hent, go_sem]) (Ret.call (block_any (unhide HC1).drew hd1 (unhide HL)) (fun f w2 hf hx => ⟨rfl, Ret.inl ((unhide HP1).trans (bnd_inl hf)), ((unhide HX1).drew).trans hx⟩) ?_); intro t S1 v w2 hf hv cx1 hx; obtain ⟨kb, rfl⟩ := vNode_ptr hv; obtain ⟨e5, e5a, HO2, HU2⟩ := kid_call (unhide HU).drew hx (by omega); have HV2 := hide hv; have HC2 := hide cx1; have HX2 := hide (((unhide HX1).drew).trans hx); have HF := hide hf; clear hv cx1 hx hf)))
    all_goals
      go_wp2_with fail
      go_meet
      exact ⟨t, _, _, _, unhide HF, unhide HC3, unhide HU3, unhide HX3⟩
  case rest =>
    obtain ⟨t2, S2, ks2, vs2, HF, cx2, HU2, HX2⟩ := hcut
    have hon2 := blockP_good (unhide HL).good _ _ _ (unhide HC1).ok (unhide HF)
    have hd2 : S2.dp = D := hon2.same.dp.trans hd1
    have HP2 := hide ((unhide HP1).trans (bnd_inr (unhide HF)))
    have HC2 := hide cx2
    clear d5 g5 hent HU HX1 HC1 HF cx2 hd1 hvs1 HP1
    obtain ⟨ks2, vs2, HU⟩ : ∃ ks vs, Hid (Und (fun j => w.heap.size ≤ j) wc w.heap.size 14 noText noText 0 S.tl ([] ++ [t2]) ks vs) := ⟨_, _, unhide HU2⟩
    have hvs2 : vs2.length ≤ 3000 := by rw [(unhide HU).len]; exact (by simp : ([] ++ [t2]).length ≤ 3000)
    obtain ⟨t0, hb⟩ := (unhide HU).cells
    have d5 : wc.cell? ⟨w.heap.size, 5, none⟩ = some ks2 := hcell hb 5
    have g5 := hfroz hb 5
    have hent := ent_catch r
    clear hb HU2
    go_wp2_with fail
    go_cut [] (fun wc => ∃ (t : Tree) (S4 : LS) (ks' : Value) (vs' : List Value), Hid (catchP L S2 = .inr (t, S4)) ∧ Cx wc r S4 ∧ Hid (Und (fun j => w.heap.size ≤ j) wc w.heap.size 14 noText noText 0 S.tl ([] ++ [t2] ++ [t]) ks' vs') ∧ Hid (Ext r w wc))
    case first =>
      go_region_law ((first | (refine step_append_lies _ (by rfl) _ _ _ (by rfl) 0 22 i0 (.pointer none) 1 8 Tryz.underlying51 hi hz0 hz1 hz2 rfl (by decide) ks2 vs2.length vs2 (by rfl) ((unhide HO2).alloc _) ⟨w2.heap.size, 0, none⟩ 1 1 [.pointer (some ⟨kb, 0, none⟩)] (by rfl) rfl (cell_one_new _ _ _) (fun u hu => by simp at hu; subst hu; rfl) (by decide) (by unfold maxLen; omega) (by omega) (Nat.zero_le _) (w2.heap.size + 1) (by simp) ?_; intro g cap w3 hown hgrow hat hlt; obtain ⟨e6, f6, HU3, HX3, HC3⟩ := kid_more rfl (unhide HU).drew (unhide HU2) hr0 (unhide HC2) (unhide HX2) (unhide HV2) _ hown hgrow hat; clear hown hgrow hat hlt) | (refine step_call rfl (by simp [Act.eval, hent, go_sem]) (Ret.call (catch_any (unhide HC2).drew hd2 (unhide HL)) (fun f w2 hf hx => ⟨rfl, Ret.inl ((unhide HP2).trans (bnd_inl hf)), ((unhide HX2).drew).trans hx⟩) ?_); intro t S1 v w2 hf hv cx1 hx; obtain ⟨kb, rfl⟩ := vNode_ptr hv; obtain ⟨e5, e5a, HO2, HU2⟩ := kid_call (unhide HU).drew hx (by omega); have HV2 := hide hv; have HC2 := hide cx1; have HX2 := hide (((unhide HX2).drew).trans hx); have HF := hide hf; clear hv cx1 hx hf)))
      all_goals
        go_wp2_with fail
        go_meet
        exact ⟨t, _, _, _, unhide HF, unhide HC3, unhide HU3, unhide HX3⟩
    case rest =>
      obtain ⟨t3, S3, ks3, vs3, HF, cx3, HU3, HX3⟩ := hcut
      have hon3 := catchP_good (unhide HL).good _ _ _ (unhide HC2).ok (unhide HF)
      have hd3 : S3.dp = D := hon3.same.dp.trans hd2
      have HP3 := hide ((unhide HP2).trans (bnd_inr (unhide HF)))
      have HC3 := hide cx3
      clear d5 g5 hent HU HX2 HC2 HF cx3 hd2 hvs2 HP2
      go_wp2_with fail
      go_ret
      exact ⟨Ret.inr (unhide HP3) ((unhide HU3).node) (unhide HC3), unhide HX3⟩

end Go.Proofs.YtndgajlidckcdaaGreatDoor

namespace Go.Proofs.YtndgajlidckcdaaGreatDoor
open Go.RowKit
attribute [local go_sem ↓] Go.wp_at_zero Go.wp_at_succ

theorem Ret.mono {α : Type} {t : Res α} {r : Nat} {V V' : α → Value → World → Prop} {e : Ending} {w : World} (hV : ∀ a v, V a v w → V' a v w) (h : Ret t r V e w) : Ret t r V' e w := by
  cases h1 : t with
  | inl f => rw [h1] at h; exact h
  | inr x =>
    rw [h1] at h
    obtain ⟨v, he, hv, hc⟩ := h
    exact ⟨v, he, hV _ _ hv, hc⟩

theorem Cx.setdp {w : World} {r : Nat} {S : LS} (h : Cx w r S) (n : Nat) : Cx (w.setCell ⟨r, 9, none⟩ (.int .i64 n)) r { S with dp := n } :=
  h.ext ((Ext.refl r w).setCell 9 _) (h.rd.set9 n) ⟨⟨h.ok.fit.size, h.ok.fit.pl, h.ok.fit.ln⟩, h.ok.tp, h.ok.tl, h.ok.now⟩ rfl

set_option maxRecDepth 100000 in
set_option maxHeartbeats 4000000 in
theorem deeper_any {w : World} {r D : Nat} {S : LS} (cx : Cx w r S) (hD : S.dp = D) (hD25 : D ≤ 25) (P : LS → Res Tree) (hg : Good P) (hP : ∀ w S, Cx w r S → S.dp = D + 1 → Calls Tryz.prog 187 #[.pointer (some ⟨r, 0, none⟩)] w fun e w' => Ret (P S) r (vNode w.heap.size) e w' ∧ Ext r w w') :
    Calls Tryz.prog 111 #[.pointer (some ⟨r, 0, none⟩), .func (.func 187) #[.pointer (some ⟨r, 0, none⟩)] #[]] w fun e w' => Ret (deepP P S) r (vNode w.heap.size) e w' ∧ Ext r w w' := by
  subst hD
  have c9 := cx.rd.c9
  have f9 := cx.rd.f9
  have hrj := cx.jc.lt
  have HC := hide cx
  have HP := hide hP
  clear cx hP
  by_cases h25 : S.dp = 25
  · have HE := hide (show deepP P S = .inl (4, S.tp) by rw [deepP, if_pos h25])
    have b0 : ((S.dp : Int) == 25) = true := by rw [beq_iff_eq]; omega
    clear h25
    go_enter Tryz.func111, Tryz.ntmps111
    go_wp2_with fail
    refine (fail_any (unhide HC).rd _).mono ?_
    rintro e w3 ⟨rfl, rfl⟩
    exact ⟨rfl, Ret.inl (unhide HE), Ext.refl _ _⟩
  · have HE := hide (show deepP P S = bnd (P { S with dp := S.dp + 1 }) fun t S1 => .inr (t, { S1 with dp := S1.dp - 1 }) by rw [deepP, if_neg h25])
    have b0 : ((S.dp : Int) == 25) = false := by rw [beq_eq_false_iff_ne]; omega
    have hle : S.dp ≤ 25 := by omega
    clear h25
    go_enter Tryz.func111, Tryz.ntmps111
    go_wp2_with fail
    have cx1 : Cx (w.setCell ⟨r, 9, none⟩ (.int .i64 ((S.dp : Int) + 1))) r { S with dp := S.dp + 1 } := (unhide HC).setdp (S.dp + 1)
    have hx1 : Ext r w (w.setCell ⟨r, 9, none⟩ (.int .i64 ((S.dp : Int) + 1))) := (Ext.refl r w).setCell 9 _
    have hsz : (w.setCell ⟨r, 9, none⟩ (.int .i64 ((S.dp : Int) + 1))).heap.size = w.heap.size := by simp
    clear c9 f9
    generalize w.setCell ⟨r, 9, none⟩ (.int .i64 ((S.dp : Int) + 1)) = w1 at *
    refine Ret.call (unhide HP w1 _ cx1 rfl) ?_ ?_
    · intro f w2 hf hx
      exact ⟨rfl, Ret.inl ((unhide HE).trans (bnd_inl hf)), hx1.trans hx⟩
    intro t S1 v w2 hf hv cx2 hx2
    have hon := hg _ _ _ cx1.ok hf
    have hd1 : S1.dp = S.dp + 1 := hon.same.dp
    obtain ⟨kb, rfl⟩ := vNode_ptr hv
    have HE1 := hide ((unhide HE).trans (bnd_inr hf))
    have c9 := cx2.rd.c9
    have f9 := cx2.rd.f9
    have HC2 := hide cx2
    have HX2 := hide (hx1.trans hx2)
    have HV := hide hv
    have hle1 : S1.dp ≤ 26 := by omega
    have hge1 : 1 ≤ S1.dp := by omega
    have HD1 := hide hd1
    have HSZ := hide hsz
    clear hf hon cx1 cx2 hx1 hx2 HE hv hd1 hsz
    go_wp2_with fail
    go_ret
    have e9 : ((S1.dp : Int) - 1) = ((S1.dp - 1 : Nat) : Int) := by omega
    rw [e9]
    refine ⟨Ret.inr (unhide HE1) ?_ ((unhide HC2).setdp _), (unhide HX2).setCell 9 _⟩
    have hv' : vNode w1.heap.size t (.pointer (some ⟨kb, 0, none⟩)) w2 := unhide HV
    rw [unhide HSZ] at hv'
    exact NodeAt.ext (r := r) hv' ((Ext.refl r w2).setCell 9 _) fun j hj => by omega

set_option maxRecDepth 100000 in
set_option maxHeartbeats 4000000 in
theorem deeper_prefixed {w : World} {r D : Nat} {S : LS} (cx : Cx w r S) (hD : S.dp = D) (hD25 : D ≤ 25) (P : LS → Res Tree) (hg : Good P) (hP : ∀ w S, Cx w r S → S.dp = D + 1 → Calls Tryz.prog 72 #[.pointer (some ⟨r, 0, none⟩)] w fun e w' => Ret (P S) r (vNode w.heap.size) e w' ∧ Ext r w w') :
    Calls Tryz.prog 111 #[.pointer (some ⟨r, 0, none⟩), .func (.func 72) #[.pointer (some ⟨r, 0, none⟩)] #[]] w fun e w' => Ret (deepP P S) r (vNode w.heap.size) e w' ∧ Ext r w w' := by
  subst hD
  have c9 := cx.rd.c9
  have f9 := cx.rd.f9
  have hrj := cx.jc.lt
  have HC := hide cx
  have HP := hide hP
  clear cx hP
  by_cases h25 : S.dp = 25
  · have HE := hide (show deepP P S = .inl (4, S.tp) by rw [deepP, if_pos h25])
    have b0 : ((S.dp : Int) == 25) = true := by rw [beq_iff_eq]; omega
    clear h25
    go_enter Tryz.func111, Tryz.ntmps111
    go_wp2_with fail
    refine (fail_any (unhide HC).rd _).mono ?_
    rintro e w3 ⟨rfl, rfl⟩
    exact ⟨rfl, Ret.inl (unhide HE), Ext.refl _ _⟩
  · have HE := hide (show deepP P S = bnd (P { S with dp := S.dp + 1 }) fun t S1 => .inr (t, { S1 with dp := S1.dp - 1 }) by rw [deepP, if_neg h25])
    have b0 : ((S.dp : Int) == 25) = false := by rw [beq_eq_false_iff_ne]; omega
    have hle : S.dp ≤ 25 := by omega
    clear h25
    go_enter Tryz.func111, Tryz.ntmps111
    go_wp2_with fail
    have cx1 : Cx (w.setCell ⟨r, 9, none⟩ (.int .i64 ((S.dp : Int) + 1))) r { S with dp := S.dp + 1 } := (unhide HC).setdp (S.dp + 1)
    have hx1 : Ext r w (w.setCell ⟨r, 9, none⟩ (.int .i64 ((S.dp : Int) + 1))) := (Ext.refl r w).setCell 9 _
    have hsz : (w.setCell ⟨r, 9, none⟩ (.int .i64 ((S.dp : Int) + 1))).heap.size = w.heap.size := by simp
    clear c9 f9
    generalize w.setCell ⟨r, 9, none⟩ (.int .i64 ((S.dp : Int) + 1)) = w1 at *
    refine Ret.call (unhide HP w1 _ cx1 rfl) ?_ ?_
    · intro f w2 hf hx
      exact ⟨rfl, Ret.inl ((unhide HE).trans (bnd_inl hf)), hx1.trans hx⟩
    intro t S1 v w2 hf hv cx2 hx2
    have hon := hg _ _ _ cx1.ok hf
    have hd1 : S1.dp = S.dp + 1 := hon.same.dp
    obtain ⟨kb, rfl⟩ := vNode_ptr hv
    have HE1 := hide ((unhide HE).trans (bnd_inr hf))
    have c9 := cx2.rd.c9
    have f9 := cx2.rd.f9
    have HC2 := hide cx2
    have HX2 := hide (hx1.trans hx2)
    have HV := hide hv
    have hle1 : S1.dp ≤ 26 := by omega
    have hge1 : 1 ≤ S1.dp := by omega
    have HD1 := hide hd1
    have HSZ := hide hsz
    clear hf hon cx1 cx2 hx1 hx2 HE hv hd1 hsz
    go_wp2_with fail
    go_ret
    have e9 : ((S1.dp : Int) - 1) = ((S1.dp - 1 : Nat) : Int) := by omega
    rw [e9]
    refine ⟨Ret.inr (unhide HE1) ?_ ((unhide HC2).setdp _), (unhide HX2).setCell 9 _⟩
    have hv' : vNode w1.heap.size t (.pointer (some ⟨kb, 0, none⟩)) w2 := unhide HV
    rw [unhide HSZ] at hv'
    exact NodeAt.ext (r := r) hv' ((Ext.refl r w2).setCell 9 _) fun j hj => by omega

set_option maxRecDepth 100000 in
set_option maxHeartbeats 4000000 in
theorem deeper_joined {w : World} {r D : Nat} {S : LS} (cx : Cx w r S) (hD : S.dp = D) (hD25 : D ≤ 25) (P : LS → Res Tree) (hg : Good P) (hP : ∀ w S, Cx w r S → S.dp = D + 1 → Calls Tryz.prog 112 #[.pointer (some ⟨jbase r 1 + 2, 0, none⟩), .pointer (some ⟨jbase r 1, 0, none⟩), .pointer (some ⟨jbase r 1 + 1, 0, none⟩)] w fun e w' => Ret (P S) r (vNode w.heap.size) e w' ∧ Ext r w w') :
    Calls Tryz.prog 111 #[.pointer (some ⟨r, 0, none⟩), .func (.func 112) #[] #[.pointer (some ⟨jbase r 1 + 2, 0, none⟩), .pointer (some ⟨jbase r 1, 0, none⟩), .pointer (some ⟨jbase r 1 + 1, 0, none⟩)]] w fun e w' => Ret (deepP P S) r (vNode w.heap.size) e w' ∧ Ext r w w' := by
  subst hD
  have c9 := cx.rd.c9
  have f9 := cx.rd.f9
  have hrj := cx.jc.lt
  have HC := hide cx
  have HP := hide hP
  clear cx hP
  by_cases h25 : S.dp = 25
  · have HE := hide (show deepP P S = .inl (4, S.tp) by rw [deepP, if_pos h25])
    have b0 : ((S.dp : Int) == 25) = true := by rw [beq_iff_eq]; omega
    clear h25
    go_enter Tryz.func111, Tryz.ntmps111
    go_wp2_with fail
    refine (fail_any (unhide HC).rd _).mono ?_
    rintro e w3 ⟨rfl, rfl⟩
    exact ⟨rfl, Ret.inl (unhide HE), Ext.refl _ _⟩
  · have HE := hide (show deepP P S = bnd (P { S with dp := S.dp + 1 }) fun t S1 => .inr (t, { S1 with dp := S1.dp - 1 }) by rw [deepP, if_neg h25])
    have b0 : ((S.dp : Int) == 25) = false := by rw [beq_eq_false_iff_ne]; omega
    have hle : S.dp ≤ 25 := by omega
    clear h25
    go_enter Tryz.func111, Tryz.ntmps111
    go_wp2_with fail
    have cx1 : Cx (w.setCell ⟨r, 9, none⟩ (.int .i64 ((S.dp : Int) + 1))) r { S with dp := S.dp + 1 } := (unhide HC).setdp (S.dp + 1)
    have hx1 : Ext r w (w.setCell ⟨r, 9, none⟩ (.int .i64 ((S.dp : Int) + 1))) := (Ext.refl r w).setCell 9 _
    have hsz : (w.setCell ⟨r, 9, none⟩ (.int .i64 ((S.dp : Int) + 1))).heap.size = w.heap.size := by simp
    clear c9 f9
    generalize w.setCell ⟨r, 9, none⟩ (.int .i64 ((S.dp : Int) + 1)) = w1 at *
    refine Ret.call (unhide HP w1 _ cx1 rfl) ?_ ?_
    · intro f w2 hf hx
      exact ⟨rfl, Ret.inl ((unhide HE).trans (bnd_inl hf)), hx1.trans hx⟩
    intro t S1 v w2 hf hv cx2 hx2
    have hon := hg _ _ _ cx1.ok hf
    have hd1 : S1.dp = S.dp + 1 := hon.same.dp
    obtain ⟨kb, rfl⟩ := vNode_ptr hv
    have HE1 := hide ((unhide HE).trans (bnd_inr hf))
    have c9 := cx2.rd.c9
    have f9 := cx2.rd.f9
    have HC2 := hide cx2
    have HX2 := hide (hx1.trans hx2)
    have HV := hide hv
    have hle1 : S1.dp ≤ 26 := by omega
    have hge1 : 1 ≤ S1.dp := by omega
    have HD1 := hide hd1
    have HSZ := hide hsz
    clear hf hon cx1 cx2 hx1 hx2 HE hv hd1 hsz
    go_wp2_with fail
    go_ret
    have e9 : ((S1.dp : Int) - 1) = ((S1.dp - 1 : Nat) : Int) := by omega
    rw [e9]
    refine ⟨Ret.inr (unhide HE1) ?_ ((unhide HC2).setdp _), (unhide HX2).setCell 9 _⟩
    have hv' : vNode w1.heap.size t (.pointer (some ⟨kb, 0, none⟩)) w2 := unhide HV
    rw [unhide HSZ] at hv'
    exact NodeAt.ext (r := r) hv' ((Ext.refl r w2).setCell 9 _) fun j hj => by omega

end Go.Proofs.YtndgajlidckcdaaGreatDoor
