/-
  Statements.
  Statements.
  Statements.
  Statements.
-/
import Derived.Test.YtndgajlidckcdaaGreatDoorB14
namespace Go.Proofs.YtndgajlidckcdaaGreatDoor
open Go.RowKit
attribute [local go_sem ↓] Go.wp_at_zero Go.wp_at_succ

set_option maxRecDepth 100000 in
set_option maxHeartbeats 8000000 in
theorem choice_any {w : World} {r D : Nat} {S : LS} (cx : Cx w r S) (hD : S.dp = D) {L : Low} (hL : LowC r D L) (hk : S.kd ≠ 0) :
    Calls Tryz.prog 218 #[.pointer (some ⟨r, 0, none⟩)] w fun e w' => Ret (choiceP L S) r (vNode w.heap.size) e w' ∧ Ext r w w' := by
  obtain ⟨i0, hi, hz0, hz1, hz2⟩ := info_parts infoNode
  have hr0 := cx.jc.lt
  have HL := hide hL
  clear hL
  have HX0 : Hid (Ext r w w) := Ext.refl r w
  have hd0 := hD
  have HC0 := hide cx
  clear cx
  go_enter Tryz.func218, Tryz.ntmps218
  go_wp2_with fail
  refine Ret.call (guarded_und (unhide HC0) hd0 (unhide HL) 10 hk) ?_ ?_
  · intro f wz hf hx
    exact ⟨rfl, Ret.inl (bnd_inl hf), (unhide HX0).trans hx⟩
  intro t1 S1 v w1 hf hv cx1 hx
  obtain ⟨rfl, c1, bb1, ks1, vs1, rfl, hu⟩ := hv
  have HU1 := hide hu
  clear hu
  have hon1 := guardedP_on (unhide HL).good (unhide HC0).ok hk hf
  have hd1 : S1.dp = D := hon1.same.dp.trans hd0
  have HP1 := hide (show (choiceP L S) = _ from bnd_inr hf)
  have HX1 := hide ((unhide HX0).trans hx)
  have HC1 := hide cx1
  clear hf hx cx1 HC0 HX0 hd0
  go_wp2_with fail
  refine Ret.call (accept_any (unhide HC1) wElse) ?_ ?_
  · intro f wz hf hx
    exact ⟨rfl, Ret.inl ((unhide HP1).trans (bnd_inl hf)), (unhide HX1).trans hx⟩
  intro b2 S2 v w2 hf hv cx2 hx
  obtain rfl : v = .bool b2 := hv
  have hon2 := (accept_on (unhide HC1).ok hf).1
  have hd2 : S2.dp = D := hon2.same.dp.trans hd1
  have HP2 := hide ((unhide HP1).trans (bnd_inr hf))
  have HU2 := hide ((unhide HU1).ext hx fun j hj => by omega)
  have HX2 := hide ((unhide HX1).trans hx)
  have HC2 := hide cx2
  clear hf hx cx2 HC1 HX1 hd1 HP1 HU1
  cases b2 with
  | false =>
    have HPf : Hid (choiceP L S = .inr (nd 10 S.tl [c1, bb1], S2)) := unhide HP2
    clear HP2
    go_wp2_with fail
    go_ret
    exact ⟨Ret.inr (unhide HPf) ((unhide HU2).node) (unhide HC2), unhide HX2⟩
  | true =>
    have HPt : Hid (choiceP L S = bnd (blockP L S2) fun u S3 => .inr (nd 10 S.tl [c1, bb1, u], S3)) := unhide HP2
    clear HP2
    obtain ⟨ks2, vs2, HU⟩ : ∃ ks vs, Hid (Und (fun j => w.heap.size ≤ j) w2 w.heap.size 10 noText noText 0 S.tl ([c1, bb1]) ks vs) := ⟨_, _, unhide HU2⟩
    have hvs2 : vs2.length ≤ 3000 := by rw [(unhide HU).len]; exact (by simp : ([c1, bb1]).length ≤ 3000)
    obtain ⟨t0, hb⟩ := (unhide HU).cells
    have d5 : w2.cell? ⟨w.heap.size, 5, none⟩ = some ks2 := hcell hb 5
    have g5 := hfroz hb 5
    have hent := ent_block r
    clear hb HU2
    go_wp2_with fail
    go_cut [] (fun wc => ∃ (t : Tree) (S4 : LS) (ks' : Value) (vs' : List Value), Hid (blockP L S2 = .inr (t, S4)) ∧ Cx wc r S4 ∧ Hid (Und (fun j => w.heap.size ≤ j) wc w.heap.size 10 noText noText 0 S.tl ([c1, bb1] ++ [t]) ks' vs') ∧ Hid (Ext r w wc))
    case first =>
      go_region_law ((first | (refine step_append_lies _ (by rfl) _ _ _ (by rfl) 0 22 i0 (.pointer none) 1 8 Tryz.underlying51 hi hz0 hz1 hz2 rfl (by decide) ks2 vs2.length vs2 (by rfl) ((unhide HO2).alloc _) ⟨w2.heap.size, 0, none⟩ 1 1 [.pointer (some ⟨kb, 0, none⟩)] (by rfl) rfl (cell_one_new _ _ _) (fun u hu => by simp at hu; subst hu; rfl) (by decide) (by unfold maxLen; omega) (by omega) (Nat.zero_le _) (w2.heap.size + 1) (by simp) ?_; intro g cap w3 hown hgrow hat hlt; obtain ⟨e6, f6, HU3, HX3, HC3⟩ := kid_more rfl (unhide HU).drew (unhide HU2) hr0 (unhide HC2) (unhide HX2) (unhide HV2) _ hown hgrow hat; clear hown hgrow hat hlt) | (refine step_call rfl (by simp [Act.eval, hent, go_sem]) (Ret.call (block_any (unhide HC2).drew hd2 (unhide HL)) (fun f w2 hf hx => ⟨rfl, Ret.inl ((unhide HPt).trans (bnd_inl hf)), ((unhide HX2).drew).trans hx⟩) ?_); intro t S1 v w2 hf hv cx1 hx; obtain ⟨kb, rfl⟩ := vNode_ptr hv; obtain ⟨e5, e5a, HO2, HU2⟩ := kid_call (unhide HU).drew hx (by omega); have HV2 := hide hv; have HC2 := hide cx1; have HX2 := hide (((unhide HX2).drew).trans hx); have HF := hide hf; clear hv cx1 hx hf)))
      all_goals
        go_wp2_with fail
        go_meet
        exact ⟨t, _, _, _, unhide HF, unhide HC3, unhide HU3, unhide HX3⟩
    case rest =>
      obtain ⟨t3, S3, ks3, vs3, HF, cx3, HU3, HX3⟩ := hcut
      have hon3 := blockP_good (unhide HL).good _ _ _ (unhide HC2).ok (unhide HF)
      have hd3 : S3.dp = D := hon3.same.dp.trans hd2
      have HP3 := hide ((unhide HPt).trans (bnd_inr (unhide HF)))
      have HC3 := hide cx3
      clear d5 g5 hent HU HX2 HC2 HF cx3 hd2 hvs2 HPt
      go_wp2_with fail
      go_ret
      exact ⟨Ret.inr (unhide HP3) ((unhide HU3).node) (unhide HC3), unhide HX3⟩

set_option maxHeartbeats 1000000 in
theorem settable_any (k : Nat) (w : World) :
    Calls Tryz.prog 244 #[.int .i64 k] w fun e w' => e = .returned (.bool (settable k)) ∧ w = w' := by
  by_cases h0 : k = 24
  · subst h0
    go_enter Tryz.func244, Tryz.ntmps244
    go_wp2_with fail
    go_ret
    exact ⟨rfl, rfl⟩
  have b0 : ((k : Int) == 24) = false := by rw [beq_eq_false_iff_ne]; omega
  by_cases h1 : k = 42
  · subst h1
    clear b0 h0
    go_enter Tryz.func244, Tryz.ntmps244
    go_wp2_with fail
    go_ret
    exact ⟨rfl, rfl⟩
  have b1 : ((k : Int) == 42) = false := by rw [beq_eq_false_iff_ne]; omega
  by_cases h2 : k = 44
  · subst h2
    clear b0 b1 h0 h1
    go_enter Tryz.func244, Tryz.ntmps244
    go_wp2_with fail
    go_ret
    exact ⟨rfl, rfl⟩
  have b2 : ((k : Int) == 44) = false := by rw [beq_eq_false_iff_ne]; omega
  have HS := hide (show settable k = false by simp [settable, h0, h1, h2])
  clear h0 h1 h2
  go_enter Tryz.func244, Tryz.ntmps244
  go_wp2_with fail
  go_ret
  rw [unhide HS]
  exact ⟨rfl, rfl⟩

theorem ent_value (r : Nat) : ∀ w : World, Sem.run Tryz.prog (callFunc 172 #[.pointer (some ⟨r, 0, none⟩)]) w = .ok (.enter 172 #[.pointer (some ⟨r, 0, none⟩)]) w := fun _ => by kernel_rfl
/-- The first kid of a node that has one. -/
theorem Und.first {lo : Nat} {w : World} {b k : Nat} {tx un : ByteArray} {n : Int} {ln : Nat} {t : Tree} {ks : Value} {vs : List Value} (h : Und (fun j => lo ≤ j) w b k tx un n ln [t] ks vs) :
    ∃ g cap kb, ks = .slice (some ⟨g, 0, none⟩) 1 cap ∧ vs = [.pointer (some ⟨kb, 0, none⟩)] ∧ w.cell? ⟨g, 0, none⟩ = some (.pointer (some ⟨kb, 0, none⟩)) ∧ w.cell? ⟨kb, 0, none⟩ = some (.int .i64 t.kind) := by
  have hlen := h.len
  have hk := h.kids 0 (by simp)
  rcases h.row with ⟨rfl, rfl⟩ | ⟨g, cap, cur, rfl, hg, h3, h4, h5, h6, h7⟩
  · simp at hlen
  · obtain ⟨v, rfl⟩ := List.length_eq_one_iff.1 hlen
    rw [NodeAt_iff] at hk
    obtain ⟨kb, ty, ks', vs', e1, _, e3, _⟩ := hk
    have e1' : v = .pointer (some ⟨kb, 0, none⟩) := e1
    subst e1'
    refine ⟨g, cap, kb, rfl, rfl, ?_, hcell e3 0⟩
    rw [hcell h3 0, ← Array.getElem?_toList]
    have : cur.toList.take 1 = [.pointer (some ⟨kb, 0, none⟩)] := h7
    have h8 : (cur.toList.take 1)[0]? = some (.pointer (some ⟨kb, 0, none⟩)) := by rw [this]; rfl
    rw [List.getElem?_take] at h8
    simpa using h8

theorem kids_more1 {lo : Nat} {w0 w w2 w6 : World} {r b k : Nat} (k' : Nat) {S : LS} {tx un : ByteArray} {n : Int} {ln : Nat} {ts : List Tree} {ks : Value} {vs : List Value} (hlo0 : lo = w0.heap.size) (hu : Und (fun j => lo ≤ j) w b k tx un n ln ts ks vs) (hu2 : Und (fun j => lo ≤ j) w2 b k tx un n ln ts ks vs)
    (hr : r + 18 < lo) (cx : Cx w2 r S) (hx0 : Ext r w0 w2) {x : Value} {t : Tree} (hv : vNode w.heap.size t x w2) (o : Obj) {g cap : Nat}
    (hown : w6.ownsRow 0 22 1 (.slice (some ⟨g, 0, none⟩) (vs.length + 1) cap) (vs.length + 1) (vs ++ [x]))
    (hg : (w2.alloc o).grownBy w6 ks.ownBlock) (hat : ks.ownBlock = some g ∨ g = w2.heap.size + 1) :
    w6.cell? ⟨b, 5, none⟩ = some ks ∧ w6.frozen? ⟨b, 5, none⟩ = false ∧ w6.cell? ⟨b, 0, none⟩ = some (.int .i64 k) ∧ w6.frozen? ⟨b, 0, none⟩ = false ∧
    Hid (Und (fun j => lo ≤ j) ((w6.setCell ⟨b, 0, none⟩ (.int .i64 k')).setCell ⟨b, 5, none⟩ (.slice (some ⟨g, 0, none⟩) (vs.length + 1) cap)) b k' tx un n ln (ts ++ [t]) (.slice (some ⟨g, 0, none⟩) (vs.length + 1) cap) (vs ++ [x])) ∧
    Hid (Ext r w0 ((w6.setCell ⟨b, 0, none⟩ (.int .i64 k')).setCell ⟨b, 5, none⟩ (.slice (some ⟨g, 0, none⟩) (vs.length + 1) cap))) ∧ Hid (Cx ((w6.setCell ⟨b, 0, none⟩ (.int .i64 k')).setCell ⟨b, 5, none⟩ (.slice (some ⟨g, 0, none⟩) (vs.length + 1) cap)) r S) :=
  kids_more (wa := w2.alloc o) (xs := [x]) (us := [t]) k' hlo0 hu (hu2.ext (r := r) ((Ext.refl r w2).alloc o) fun j hj => by omega) hr (cx.alloc o) (hx0.alloc o) rfl (fun i hi => by
    have hi0 : i = 0 := by simpa using hi
    subst hi0
    exact NodeAt.keep (fun _ h => h) (fun j _ hl => hold _ _ hl) _ _ hv) hown hg (by simpa using hat)

set_option maxRecDepth 100000 in
set_option maxHeartbeats 8000000 in
theorem bare_any {w : World} {r D : Nat} {S : LS} (cx : Cx w r S) (hD : S.dp = D) {L : Low} (hL : LowC r D L) :
    Calls Tryz.prog 224 #[.pointer (some ⟨r, 0, none⟩)] w fun e w' => Ret (bareP L S) r (vNode w.heap.size) e w' ∧ Ext r w w' := by
  obtain ⟨i0, hi, hz0, hz1, hz2⟩ := info_parts infoNode
  have hr0 := cx.jc.lt
  have HL := hide hL
  clear hL
  have HX0 : Hid (Ext r w w) := Ext.refl r w
  have hd0 := hD
  have HC0 := hide cx
  clear cx
  go_enter Tryz.func224, Tryz.ntmps224
  have c4 := (unhide HC0).rd.c4
  go_wp2_with fail
  go_cut [3, 4] (fun n p wc => n = .pointer (some ⟨w.heap.size, 0, none⟩) ∧ p = .int .i64 S.tp ∧ Cx wc r S ∧ Hid (Und (fun j => w.heap.size ≤ j) wc w.heap.size 17 noText noText 0 S.tl [] (.slice none 0 0) []) ∧ Hid (Ext r w wc))
  case first =>
    go_region_law (refine step_call rfl (by simp [Act.eval, go_sem]) ((start_calls (unhide HC0).drew 17).mono ?_); rintro e w1 ⟨v, rfl, ⟨rfl, hu⟩, cx1, hx⟩; have e4 := cx1.rd.c4; have HU1 := hide hu; have HX1 := hide ((unhide HX0).drew.trans hx); have HC1 := hide cx1; clear hu hx cx1)
    all_goals
      go_wp2_with fail
      go_meet
      exact ⟨rfl, rfl, unhide HC1, unhide HU1, unhide HX1⟩
  case rest =>
    obtain ⟨rfl, rfl, cx1, HU1, HX1⟩ := hcut
    have HC1 := hide cx1
    have hd1 := hd0
    clear cx1 HC0 HX0 c4
    obtain ⟨ks1, vs1, HU⟩ : ∃ ks vs, Hid (Und (fun j => w.heap.size ≤ j) wc w.heap.size 17 noText noText 0 S.tl ([]) ks vs) := ⟨_, _, unhide HU1⟩
    have hvs1 : vs1.length ≤ 3000 := by rw [(unhide HU).len]; exact (by simp : ([]).length ≤ 3000)
    obtain ⟨t0, hb⟩ := (unhide HU).cells
    have d5 : wc.cell? ⟨w.heap.size, 5, none⟩ = some ks1 := hcell hb 5
    have g5 := hfroz hb 5
    have hent := ent_value r
    clear hb HU1
    go_wp2_with fail
    go_cut [] (fun wc => ∃ (t : Tree) (S4 : LS) (ks' : Value) (vs' : List Value), Hid (L.V S = .inr (t, S4)) ∧ Cx wc r S4 ∧ Hid (Und (fun j => w.heap.size ≤ j) wc w.heap.size 17 noText noText 0 S.tl ([] ++ [t]) ks' vs') ∧ Hid (Ext r w wc))
    case first =>
      go_region_law ((first | (refine step_append_lies _ (by rfl) _ _ _ (by rfl) 0 22 i0 (.pointer none) 1 8 Tryz.underlying51 hi hz0 hz1 hz2 rfl (by decide) ks1 vs1.length vs1 (by rfl) ((unhide HO2).alloc _) ⟨w2.heap.size, 0, none⟩ 1 1 [.pointer (some ⟨kb, 0, none⟩)] (by rfl) rfl (cell_one_new _ _ _) (fun u hu => by simp at hu; subst hu; rfl) (by decide) (by unfold maxLen; omega) (by omega) (Nat.zero_le _) (w2.heap.size + 1) (by simp) ?_; intro g cap w3 hown hgrow hat hlt; obtain ⟨e6, f6, HU3, HX3, HC3⟩ := kid_more rfl (unhide HU).drew (unhide HU2) hr0 (unhide HC2) (unhide HX2) (unhide HV2) _ hown hgrow hat; clear hown hgrow hat hlt) | (refine step_call rfl (by simp [Act.eval, hent, go_sem]) (Ret.call ((unhide HL).v _ _ (unhide HC1).drew hd1) (fun f w2 hf hx => ⟨rfl, Ret.inl (bnd_inl hf), ((unhide HX1).drew).trans hx⟩) ?_); intro t S1 v w2 hf hv cx1 hx; obtain ⟨kb, rfl⟩ := vNode_ptr hv; obtain ⟨e5, e5a, HO2, HU2⟩ := kid_call (unhide HU).drew hx (by omega); have HV2 := hide hv; have HC2 := hide cx1; have HX2 := hide (((unhide HX1).drew).trans hx); have HF := hide hf; clear hv cx1 hx hf)))
      all_goals
        go_wp2_with fail
        go_meet
        exact ⟨t, _, _, _, unhide HF, unhide HC3, unhide HU3, unhide HX3⟩
    case rest =>
      obtain ⟨t2, S2, ks2, vs2, HF, cx2, HU2, HX2⟩ := hcut
      have hon2 := (unhide HL).good.v _ _ _ (unhide HC1).ok (unhide HF)
      have hd2 : S2.dp = D := hon2.same.dp.trans hd1
      have HP2 := hide (show (bareP L S) = _ from bnd_inr (unhide HF))
      have HC2 := hide cx2
      clear d5 g5 hent HU HX1 HC1 HF cx2 hd1 hvs1
      clear hon2
      cases hq : S2.is tEqual with
      | false =>
        have HPf : Hid (bareP L S = bnd (wantP tSemi S2) fun _ S3 => .inr (nd 17 S.tl [t2], S3)) := (unhide HP2).trans (if_neg (by rw [hq]; decide))
        clear HP2
        go_wp2_with fail
        refine (is_c (unhide HC2).rd tEqual hq).mono ?_
        rintro e wz ⟨rfl, rfl⟩
        clear hq
        go_wp2_with fail
        refine Ret.call (want_any (unhide HC2) tSemi) ?_ ?_
        · intro f wz hf hx
          exact ⟨rfl, Ret.inl ((unhide HPf).trans (bnd_inl hf)), (unhide HX2).trans hx⟩
        intro a3 S3 v w3 hf hv cx3 hx
        obtain rfl : v = .tuple #[] := hv
        have hon3 := want_on (unhide HC2).ok hf
        have hd3 : S3.dp = D := hon3.same.dp.trans hd2
        have HP3 := hide ((unhide HPf).trans (bnd_inr hf))
        have HU3 := hide ((unhide HU2).ext hx fun j hj => by omega)
        have HX3 := hide ((unhide HX2).trans hx)
        have HC3 := hide cx3
        clear hf hx cx3 HC2 HX2 hd2 HPf HU2
        go_wp2_with fail
        go_ret
        exact ⟨Ret.inr (unhide HP3) ((unhide HU3).node) (unhide HC3), unhide HX3⟩
      | true =>
        have HK := hide (is_kd hq)
        obtain ⟨g1, cap1, kb1, rfl, rfl, q1, q2⟩ := (unhide HU2).first
        obtain ⟨t0, hb⟩ := (unhide HU2).cells
        have d5 : wc.cell? ⟨w.heap.size, 5, none⟩ = some (.slice (some ⟨g1, 0, none⟩) 1 cap1) := hcell hb 5
        clear hb
        go_wp2_with fail
        refine (is_c (unhide HC2).rd tEqual hq).mono ?_
        rintro e wz ⟨rfl, rfl⟩
        go_wp2_with fail
        cases hs : settable t2.kind with
        | false =>
          have HPf : Hid (bareP L S = .inl (1, S.tp)) := (unhide HP2).trans ((if_pos hq).trans (if_neg (by rw [hs]; decide)))
          refine (settable_any t2.kind _).mono ?_
          rw [hs]
          rintro e wz ⟨rfl, rfl⟩
          clear hq hs q1 q2 d5
          go_wp2_with fail
          exact ⟨rfl, Ret.inl (f := (1, S.tp)) (unhide HPf), unhide HX2⟩
        | true =>
          have HPt : Hid (bareP L S = bnd (takeP S2) fun _ S3 => bnd (L.V S3) fun u S4 => bnd (wantP tSemi S4) fun _ S5 => .inr (nd 9 S.tl [t2, u], S5)) := (unhide HP2).trans ((if_pos hq).trans (if_pos hs))
          refine (settable_any t2.kind _).mono ?_
          rw [hs]
          rintro e wz ⟨rfl, rfl⟩
          clear hq hs q1 q2 d5 HP2
          go_wp2_with fail
          refine Ret.call (take_any (unhide HC2)) ?_ ?_
          · intro f wz hf hx
            exact ⟨rfl, Ret.inl ((unhide HPt).trans (bnd_inl hf)), (unhide HX2).trans hx⟩
          intro a3 S3 v w3 hf hv cx3 hx
          obtain rfl : v = S2.tok := hv
          have hon3 := take_on (unhide HC2).ok (unhide HK) hf
          have hd3 : S3.dp = D := hon3.same.dp.trans hd2
          have HP3 := hide ((unhide HPt).trans (bnd_inr hf))
          have HU3 := hide ((unhide HU2).ext hx fun j hj => by omega)
          have HX3 := hide ((unhide HX2).trans hx)
          have HC3 := hide cx3
          clear hf hx cx3 HC2 HX2 hd2 HPt HU2
          obtain ⟨t0, hb⟩ := (unhide HU3).cells
          have d5 : w3.cell? ⟨w.heap.size, 5, none⟩ = some (.slice (some ⟨g1, 0, none⟩) 1 cap1) := hcell hb 5
          have g5 := hfroz hb 5
          have d0 : w3.cell? ⟨w.heap.size, 0, none⟩ = some (.int .i64 17) := hcell hb 0
          have g0 := hfroz hb 0
          have hent := ent_value r
          clear hb
          go_wp2_with fail
          go_cut [] (fun wc => ∃ (t : Tree) (S4 : LS) (ks' : Value) (vs' : List Value), Hid (L.V S3 = .inr (t, S4)) ∧ Cx wc r S4 ∧ Hid (Und (fun j => w.heap.size ≤ j) wc w.heap.size 9 noText noText 0 S.tl ([t2] ++ [t]) ks' vs') ∧ Hid (Ext r w wc))
          case first =>
            go_region_law ((first | (refine step_append_lies _ (by rfl) _ _ _ (by rfl) 0 22 i0 (.pointer none) 1 8 Tryz.underlying51 hi hz0 hz1 hz2 rfl (by decide) (.slice (some ⟨g1, 0, none⟩) 1 cap1) 1 [.pointer (some ⟨kb1, 0, none⟩)] (by rfl) ((unhide HU4).row.owns.alloc _) ⟨w4.heap.size, 0, none⟩ 1 1 [.pointer (some ⟨kb, 0, none⟩)] (by rfl) rfl (cell_one_new _ _ _) (fun u hu => by simp at hu; subst hu; rfl) (by decide) (by unfold maxLen; omega) (by omega) (Nat.zero_le _) (w4.heap.size + 1) (by simp) ?_; intro g6 cap6 w6 hown hgrow hat hlt; have hq := kids_more1 9 rfl (unhide HU3).drew (unhide HU4) hr0 (unhide HC4) (unhide HX4) (unhide HV4) _ hown hgrow hat; clear hown hgrow hat hlt; have e5 := hq.1; have f5 := hq.2.1; have e0 := hq.2.2.1; have f0 := hq.2.2.2.1; have HQ := hide hq; clear hq) | (refine step_call rfl (by simp [Act.eval, hent, go_sem]) (Ret.call ((unhide HL).v _ _ (unhide HC3).drew hd3) (fun f w2 hf hx => ⟨rfl, Ret.inl ((unhide HP3).trans (bnd_inl hf)), ((unhide HX3).drew).trans hx⟩) ?_); intro t S4 v w4 hf hv cx4 hx; obtain ⟨kb, rfl⟩ := vNode_ptr hv; have HU4 := hide ((unhide HU3).drew.ext hx fun j hj => by omega); have HX4 := hide (((unhide HX3).drew).trans hx); have HC4 := hide cx4; have HV4 := hide hv; have HF := hide hf; clear cx4 hx hv hf; obtain ⟨t5, hb5⟩ := (unhide HU4).cells; have e5 : w4.cell? ⟨w.heap.size, 5, none⟩ = some (.slice (some ⟨g1, 0, none⟩) 1 cap1) := hcell hb5 5; have e5a : ∀ o, (w4.alloc o).cell? ⟨w.heap.size, 5, none⟩ = some (.slice (some ⟨g1, 0, none⟩) 1 cap1) := fun o => hcell ((hold _ _ (Array.getElem?_eq_some_iff.1 hb5).1).trans hb5) 5; clear hb5)))
            all_goals
              go_wp2_with fail
              go_meet
              exact ⟨t, _, _, _, unhide HF, unhide (unhide HQ).2.2.2.2.2.2, unhide (unhide HQ).2.2.2.2.1, unhide (unhide HQ).2.2.2.2.2.1⟩
          case rest =>
            obtain ⟨t4, S4, ks4, vs4, HF, cx4, HU4, HX4⟩ := hcut
            have hon4 := (unhide HL).good.v _ _ _ (unhide HC3).ok (unhide HF)
            have hd4 : S4.dp = D := hon4.same.dp.trans hd3
            have HP4 := hide ((unhide HP3).trans (bnd_inr (unhide HF)))
            have HC4 := hide cx4
            clear d5 g5 d0 g0 hent HU3 HX3 HC3 HF cx4 hd3 HP3
            go_wp2_with fail
            refine Ret.call (want_any (unhide HC4) tSemi) ?_ ?_
            · intro f wz hf hx
              exact ⟨rfl, Ret.inl ((unhide HP4).trans (bnd_inl hf)), (unhide HX4).trans hx⟩
            intro a5 S5 v w5 hf hv cx5 hx
            obtain rfl : v = .tuple #[] := hv
            have hon5 := want_on (unhide HC4).ok hf
            have hd5 : S5.dp = D := hon5.same.dp.trans hd4
            have HP5 := hide ((unhide HP4).trans (bnd_inr hf))
            have HU5 := hide ((unhide HU4).ext hx fun j hj => by omega)
            have HX5 := hide ((unhide HX4).trans hx)
            have HC5 := hide cx5
            clear hf hx cx5 HC4 HX4 hd4 HP4 HU4
            go_wp2_with fail
            go_ret
            exact ⟨Ret.inr (unhide HP5) ((unhide HU5).node) (unhide HC5), unhide HX5⟩

end Go.Proofs.YtndgajlidckcdaaGreatDoor

namespace Go.Proofs.YtndgajlidckcdaaGreatDoor
open Go.RowKit
attribute [local go_sem ↓] Go.wp_at_zero Go.wp_at_succ

theorem reads_par {r D : Nat} {L : Low} (hL : LowC r D L) {S : LS} (hd : S.dp = D) : Reads r 222 #[.pointer (some ⟨r, 0, none⟩)] (inParP L) S := fun _ cx => inPar_any cx hd hL

set_option maxRecDepth 100000 in
set_option maxHeartbeats 8000000 in
theorem any_any_0 {w : World} {r D : Nat} {S : LS} (cx : Cx w r S) (hD : S.dp = D) {L : Low} (hL : LowC r D L) (hb0 : S.is wVar = true) :
    Calls Tryz.prog 187 #[.pointer (some ⟨r, 0, none⟩)] w fun e w' => Ret (variableP L S) r (vNode w.heap.size) e w' ∧ Ext r w w' := by
  obtain ⟨i0, hi, hz0, hz1, hz2⟩ := info_parts infoNode
  have hr0 := cx.jc.lt
  have HL := hide hL
  clear hL
  have HX0 : Hid (Ext r w w) := Ext.refl r w
  have hd0 := hD
  have HC0 := hide cx
  clear cx
  go_enter Tryz.func187, Tryz.ntmps187
  have hk := is_kd hb0
  go_wp2_with fail
  refine (is_c (unhide HC0).rd wVar hb0).mono ?_
  rintro e wz ⟨rfl, rfl⟩
  go_wp2_with fail
  refine Ret.call (variable_any (unhide HC0) hd0 (unhide HL) hk) ?_ ?_
  · intro f wz hf hx
    exact ⟨rfl, Ret.inl (hf), (unhide HX0).trans hx⟩
  intro t9 S9 v w9 hf hv cx9 hx9
  obtain ⟨kb, rfl⟩ := vNode_ptr hv
  have HP9 := hide (hf)
  have HV9 := hide hv
  clear hf hv
  go_wp2_with fail
  go_ret
  exact ⟨Ret.inr (unhide HP9) (unhide HV9) cx9, (unhide HX0).trans hx9⟩

set_option maxRecDepth 100000 in
set_option maxHeartbeats 8000000 in
theorem any_any_1 {w : World} {r D : Nat} {S : LS} (cx : Cx w r S) (hD : S.dp = D) {L : Low} (hL : LowC r D L) (hb0 : S.is wVar = false) (hb1 : S.is wIf = true) :
    Calls Tryz.prog 187 #[.pointer (some ⟨r, 0, none⟩)] w fun e w' => Ret (choiceP L S) r (vNode w.heap.size) e w' ∧ Ext r w w' := by
  obtain ⟨i0, hi, hz0, hz1, hz2⟩ := info_parts infoNode
  have hr0 := cx.jc.lt
  have HL := hide hL
  clear hL
  have HX0 : Hid (Ext r w w) := Ext.refl r w
  have hd0 := hD
  have HC0 := hide cx
  clear cx
  go_enter Tryz.func187, Tryz.ntmps187
  have hk := is_kd hb1
  go_wp2_with fail
  refine (is_c (unhide HC0).rd wVar hb0).mono ?_
  rintro e wz ⟨rfl, rfl⟩
  go_wp2_with fail
  refine (is_c (unhide HC0).rd wIf hb1).mono ?_
  rintro e wz ⟨rfl, rfl⟩
  go_wp2_with fail
  refine Ret.call (choice_any (unhide HC0) hd0 (unhide HL) hk) ?_ ?_
  · intro f wz hf hx
    exact ⟨rfl, Ret.inl (hf), (unhide HX0).trans hx⟩
  intro t9 S9 v w9 hf hv cx9 hx9
  obtain ⟨kb, rfl⟩ := vNode_ptr hv
  have HP9 := hide (hf)
  have HV9 := hide hv
  clear hf hv
  go_wp2_with fail
  go_ret
  exact ⟨Ret.inr (unhide HP9) (unhide HV9) cx9, (unhide HX0).trans hx9⟩

set_option maxRecDepth 100000 in
set_option maxHeartbeats 8000000 in
theorem any_any_2 {w : World} {r D : Nat} {S : LS} (cx : Cx w r S) (hD : S.dp = D) {L : Low} (hL : LowC r D L) (hb0 : S.is wVar = false) (hb1 : S.is wIf = false) (hb2 : S.is wWhile = true) :
    Calls Tryz.prog 187 #[.pointer (some ⟨r, 0, none⟩)] w fun e w' => Ret (guardedP L 11 S) r (vNode w.heap.size) e w' ∧ Ext r w w' := by
  obtain ⟨i0, hi, hz0, hz1, hz2⟩ := info_parts infoNode
  have hr0 := cx.jc.lt
  have HL := hide hL
  clear hL
  have HX0 : Hid (Ext r w w) := Ext.refl r w
  have hd0 := hD
  have HC0 := hide cx
  clear cx
  go_enter Tryz.func187, Tryz.ntmps187
  have hk := is_kd hb2
  go_wp2_with fail
  refine (is_c (unhide HC0).rd wVar hb0).mono ?_
  rintro e wz ⟨rfl, rfl⟩
  go_wp2_with fail
  refine (is_c (unhide HC0).rd wIf hb1).mono ?_
  rintro e wz ⟨rfl, rfl⟩
  go_wp2_with fail
  refine (is_c (unhide HC0).rd wWhile hb2).mono ?_
  rintro e wz ⟨rfl, rfl⟩
  go_wp2_with fail
  refine Ret.call (guarded_any (unhide HC0) hd0 (unhide HL) 11 hk) ?_ ?_
  · intro f wz hf hx
    exact ⟨rfl, Ret.inl (hf), (unhide HX0).trans hx⟩
  intro t9 S9 v w9 hf hv cx9 hx9
  obtain ⟨kb, rfl⟩ := vNode_ptr hv
  have HP9 := hide (hf)
  have HV9 := hide hv
  clear hf hv
  go_wp2_with fail
  go_ret
  exact ⟨Ret.inr (unhide HP9) (unhide HV9) cx9, (unhide HX0).trans hx9⟩

set_option maxRecDepth 100000 in
set_option maxHeartbeats 8000000 in
theorem any_any_3 {w : World} {r D : Nat} {S : LS} (cx : Cx w r S) (hD : S.dp = D) {L : Low} (hL : LowC r D L) (hb0 : S.is wVar = false) (hb1 : S.is wIf = false) (hb2 : S.is wWhile = false) (hb3 : S.is wReturn = true) :
    Calls Tryz.prog 187 #[.pointer (some ⟨r, 0, none⟩)] w fun e w' => Ret (returnedP L S) r (vNode w.heap.size) e w' ∧ Ext r w w' := by
  obtain ⟨i0, hi, hz0, hz1, hz2⟩ := info_parts infoNode
  have hr0 := cx.jc.lt
  have HL := hide hL
  clear hL
  have HX0 : Hid (Ext r w w) := Ext.refl r w
  have hd0 := hD
  have HC0 := hide cx
  clear cx
  go_enter Tryz.func187, Tryz.ntmps187
  have hk := is_kd hb3
  go_wp2_with fail
  refine (is_c (unhide HC0).rd wVar hb0).mono ?_
  rintro e wz ⟨rfl, rfl⟩
  go_wp2_with fail
  refine (is_c (unhide HC0).rd wIf hb1).mono ?_
  rintro e wz ⟨rfl, rfl⟩
  go_wp2_with fail
  refine (is_c (unhide HC0).rd wWhile hb2).mono ?_
  rintro e wz ⟨rfl, rfl⟩
  go_wp2_with fail
  refine (is_c (unhide HC0).rd wReturn hb3).mono ?_
  rintro e wz ⟨rfl, rfl⟩
  go_wp2_with fail
  refine Ret.call (returned_any (unhide HC0) hd0 (unhide HL) hk) ?_ ?_
  · intro f wz hf hx
    exact ⟨rfl, Ret.inl (hf), (unhide HX0).trans hx⟩
  intro t9 S9 v w9 hf hv cx9 hx9
  obtain ⟨kb, rfl⟩ := vNode_ptr hv
  have HP9 := hide (hf)
  have HV9 := hide hv
  clear hf hv
  go_wp2_with fail
  go_ret
  exact ⟨Ret.inr (unhide HP9) (unhide HV9) cx9, (unhide HX0).trans hx9⟩

end Go.Proofs.YtndgajlidckcdaaGreatDoor

namespace Go.Proofs.YtndgajlidckcdaaGreatDoor
open Go.RowKit
attribute [local go_sem ↓] Go.wp_at_zero Go.wp_at_succ

theorem reads_par1 {r D : Nat} {L : Low} (hL : LowC r D L) {S : LS} (hd : S.dp = D) : Reads r 222 #[.pointer (some ⟨r, 0, none⟩)] (inParP L) S := fun _ cx => inPar_any cx hd hL

set_option maxRecDepth 100000 in
set_option maxHeartbeats 8000000 in
theorem any_any_4 {w : World} {r D : Nat} {S : LS} (cx : Cx w r S) (hD : S.dp = D) {L : Low} (hL : LowC r D L) (hb0 : S.is wVar = false) (hb1 : S.is wIf = false) (hb2 : S.is wWhile = false) (hb3 : S.is wReturn = false) (hb4 : S.is wThrow = true) :
    Calls Tryz.prog 187 #[.pointer (some ⟨r, 0, none⟩)] w fun e w' => Ret (endP 13 L.V S) r (vNode w.heap.size) e w' ∧ Ext r w w' := by
  obtain ⟨i0, hi, hz0, hz1, hz2⟩ := info_parts infoNode
  have hr0 := cx.jc.lt
  have HL := hide hL
  clear hL
  have HX0 : Hid (Ext r w w) := Ext.refl r w
  have hd0 := hD
  have HC0 := hide cx
  clear cx
  go_enter Tryz.func187, Tryz.ntmps187
  have hk := is_kd hb4
  go_wp2_with fail
  refine (is_c (unhide HC0).rd wVar hb0).mono ?_
  rintro e wz ⟨rfl, rfl⟩
  go_wp2_with fail
  refine (is_c (unhide HC0).rd wIf hb1).mono ?_
  rintro e wz ⟨rfl, rfl⟩
  go_wp2_with fail
  refine (is_c (unhide HC0).rd wWhile hb2).mono ?_
  rintro e wz ⟨rfl, rfl⟩
  go_wp2_with fail
  refine (is_c (unhide HC0).rd wReturn hb3).mono ?_
  rintro e wz ⟨rfl, rfl⟩
  go_wp2_with fail
  refine (is_c (unhide HC0).rd wThrow hb4).mono ?_
  rintro e wz ⟨rfl, rfl⟩
  go_wp2_with fail
  refine Ret.call (taken_any (unhide HC0) 13) ?_ ?_
  · intro f wz hf hx
    exact ⟨rfl, Ret.inl (bnd_inl hf), (unhide HX0).trans hx⟩
  intro a1 S1 v w1 hf hv cx1 hx
  obtain ⟨rfl, hu⟩ := hv
  have HU1 := hide hu
  have hon1 := take_on (unhide HC0).ok hk hf
  have hd1 : S1.dp = D := hon1.same.dp.trans hd0
  have HP1 := hide (show (endP 13 L.V S) = _ from bnd_inr hf)
  have HX1 := hide ((unhide HX0).trans hx)
  have HC1 := hide cx1
  clear hf hx cx1 HC0 HX0 hd0 hu
  go_wp2_with fail
  refine Ret.callX (X := Ext r w) (closed_any (unhide HC1) (unhide HX1) hr0 (unhide HU1) (by simp) _ _ _ (reads_value (unhide HL) hd1) ((value_part (unhide HL)).ent)) ?_ ?_
  · intro f wz hf hx
    exact ⟨rfl, Ret.inl ((unhide HP1).trans (bnd_inl hf)), hx⟩
  intro t9 S9 v w9 hf hv cx9 hx9
  obtain ⟨rfl, ks, vs, hu9⟩ := hv
  have HP9 := hide ((unhide HP1).trans (bnd_inr hf))
  clear hf
  go_wp2_with fail
  go_ret
  exact ⟨Ret.inr (unhide HP9) hu9.node cx9, hx9⟩

set_option maxRecDepth 100000 in
set_option maxHeartbeats 8000000 in
theorem any_any_5 {w : World} {r D : Nat} {S : LS} (cx : Cx w r S) (hD : S.dp = D) {L : Low} (hL : LowC r D L) (hb0 : S.is wVar = false) (hb1 : S.is wIf = false) (hb2 : S.is wWhile = false) (hb3 : S.is wReturn = false) (hb4 : S.is wThrow = false) (hb5 : S.is wPrint = true) :
    Calls Tryz.prog 187 #[.pointer (some ⟨r, 0, none⟩)] w fun e w' => Ret (endP 16 (inParP L) S) r (vNode w.heap.size) e w' ∧ Ext r w w' := by
  obtain ⟨i0, hi, hz0, hz1, hz2⟩ := info_parts infoNode
  have hr0 := cx.jc.lt
  have HL := hide hL
  clear hL
  have HX0 : Hid (Ext r w w) := Ext.refl r w
  have hd0 := hD
  have HC0 := hide cx
  clear cx
  go_enter Tryz.func187, Tryz.ntmps187
  have hk := is_kd hb5
  go_wp2_with fail
  refine (is_c (unhide HC0).rd wVar hb0).mono ?_
  rintro e wz ⟨rfl, rfl⟩
  go_wp2_with fail
  refine (is_c (unhide HC0).rd wIf hb1).mono ?_
  rintro e wz ⟨rfl, rfl⟩
  go_wp2_with fail
  refine (is_c (unhide HC0).rd wWhile hb2).mono ?_
  rintro e wz ⟨rfl, rfl⟩
  go_wp2_with fail
  refine (is_c (unhide HC0).rd wReturn hb3).mono ?_
  rintro e wz ⟨rfl, rfl⟩
  go_wp2_with fail
  refine (is_c (unhide HC0).rd wThrow hb4).mono ?_
  rintro e wz ⟨rfl, rfl⟩
  go_wp2_with fail
  refine (is_c (unhide HC0).rd wPrint hb5).mono ?_
  rintro e wz ⟨rfl, rfl⟩
  go_wp2_with fail
  refine Ret.call (taken_any (unhide HC0) 16) ?_ ?_
  · intro f wz hf hx
    exact ⟨rfl, Ret.inl (bnd_inl hf), (unhide HX0).trans hx⟩
  intro a1 S1 v w1 hf hv cx1 hx
  obtain ⟨rfl, hu⟩ := hv
  have HU1 := hide hu
  have hon1 := take_on (unhide HC0).ok hk hf
  have hd1 : S1.dp = D := hon1.same.dp.trans hd0
  have HP1 := hide (show (endP 16 (inParP L) S) = _ from bnd_inr hf)
  have HX1 := hide ((unhide HX0).trans hx)
  have HC1 := hide cx1
  clear hf hx cx1 HC0 HX0 hd0 hu
  go_wp2_with fail
  refine Ret.callX (X := Ext r w) (closed_any (unhide HC1) (unhide HX1) hr0 (unhide HU1) (by simp) _ _ _ (reads_par1 (unhide HL) hd1) (ent_par r)) ?_ ?_
  · intro f wz hf hx
    exact ⟨rfl, Ret.inl ((unhide HP1).trans (bnd_inl hf)), hx⟩
  intro t9 S9 v w9 hf hv cx9 hx9
  obtain ⟨rfl, ks, vs, hu9⟩ := hv
  have HP9 := hide ((unhide HP1).trans (bnd_inr hf))
  clear hf
  go_wp2_with fail
  go_ret
  exact ⟨Ret.inr (unhide HP9) hu9.node cx9, hx9⟩

set_option maxRecDepth 100000 in
set_option maxHeartbeats 8000000 in
theorem any_any_6 {w : World} {r D : Nat} {S : LS} (cx : Cx w r S) (hD : S.dp = D) {L : Low} (hL : LowC r D L) (hb0 : S.is wVar = false) (hb1 : S.is wIf = false) (hb2 : S.is wWhile = false) (hb3 : S.is wReturn = false) (hb4 : S.is wThrow = false) (hb5 : S.is wPrint = false) (hb6 : S.is wTry = true) :
    Calls Tryz.prog 187 #[.pointer (some ⟨r, 0, none⟩)] w fun e w' => Ret (tryP L S) r (vNode w.heap.size) e w' ∧ Ext r w w' := by
  obtain ⟨i0, hi, hz0, hz1, hz2⟩ := info_parts infoNode
  have hr0 := cx.jc.lt
  have HL := hide hL
  clear hL
  have HX0 : Hid (Ext r w w) := Ext.refl r w
  have hd0 := hD
  have HC0 := hide cx
  clear cx
  go_enter Tryz.func187, Tryz.ntmps187
  have hk := is_kd hb6
  go_wp2_with fail
  refine (is_c (unhide HC0).rd wVar hb0).mono ?_
  rintro e wz ⟨rfl, rfl⟩
  go_wp2_with fail
  refine (is_c (unhide HC0).rd wIf hb1).mono ?_
  rintro e wz ⟨rfl, rfl⟩
  go_wp2_with fail
  refine (is_c (unhide HC0).rd wWhile hb2).mono ?_
  rintro e wz ⟨rfl, rfl⟩
  go_wp2_with fail
  refine (is_c (unhide HC0).rd wReturn hb3).mono ?_
  rintro e wz ⟨rfl, rfl⟩
  go_wp2_with fail
  refine (is_c (unhide HC0).rd wThrow hb4).mono ?_
  rintro e wz ⟨rfl, rfl⟩
  go_wp2_with fail
  refine (is_c (unhide HC0).rd wPrint hb5).mono ?_
  rintro e wz ⟨rfl, rfl⟩
  go_wp2_with fail
  refine (is_c (unhide HC0).rd wTry hb6).mono ?_
  rintro e wz ⟨rfl, rfl⟩
  go_wp2_with fail
  refine Ret.call (try_any (unhide HC0) hd0 (unhide HL) hk) ?_ ?_
  · intro f wz hf hx
    exact ⟨rfl, Ret.inl (hf), (unhide HX0).trans hx⟩
  intro t9 S9 v w9 hf hv cx9 hx9
  obtain ⟨kb, rfl⟩ := vNode_ptr hv
  have HP9 := hide (hf)
  have HV9 := hide hv
  clear hf hv
  go_wp2_with fail
  go_ret
  exact ⟨Ret.inr (unhide HP9) (unhide HV9) cx9, (unhide HX0).trans hx9⟩

set_option maxRecDepth 100000 in
set_option maxHeartbeats 8000000 in
theorem any_any_7 {w : World} {r D : Nat} {S : LS} (cx : Cx w r S) (hD : S.dp = D) {L : Low} (hL : LowC r D L) (hb0 : S.is wVar = false) (hb1 : S.is wIf = false) (hb2 : S.is wWhile = false) (hb3 : S.is wReturn = false) (hb4 : S.is wThrow = false) (hb5 : S.is wPrint = false) (hb6 : S.is wTry = false) :
    Calls Tryz.prog 187 #[.pointer (some ⟨r, 0, none⟩)] w fun e w' => Ret (bareP L S) r (vNode w.heap.size) e w' ∧ Ext r w w' := by
  obtain ⟨i0, hi, hz0, hz1, hz2⟩ := info_parts infoNode
  have hr0 := cx.jc.lt
  have HL := hide hL
  clear hL
  have HX0 : Hid (Ext r w w) := Ext.refl r w
  have hd0 := hD
  have HC0 := hide cx
  clear cx
  go_enter Tryz.func187, Tryz.ntmps187
  go_wp2_with fail
  refine (is_c (unhide HC0).rd wVar hb0).mono ?_
  rintro e wz ⟨rfl, rfl⟩
  go_wp2_with fail
  refine (is_c (unhide HC0).rd wIf hb1).mono ?_
  rintro e wz ⟨rfl, rfl⟩
  go_wp2_with fail
  refine (is_c (unhide HC0).rd wWhile hb2).mono ?_
  rintro e wz ⟨rfl, rfl⟩
  go_wp2_with fail
  refine (is_c (unhide HC0).rd wReturn hb3).mono ?_
  rintro e wz ⟨rfl, rfl⟩
  go_wp2_with fail
  refine (is_c (unhide HC0).rd wThrow hb4).mono ?_
  rintro e wz ⟨rfl, rfl⟩
  go_wp2_with fail
  refine (is_c (unhide HC0).rd wPrint hb5).mono ?_
  rintro e wz ⟨rfl, rfl⟩
  go_wp2_with fail
  refine (is_c (unhide HC0).rd wTry hb6).mono ?_
  rintro e wz ⟨rfl, rfl⟩
  go_wp2_with fail
  refine Ret.call (bare_any (unhide HC0) hd0 (unhide HL)) ?_ ?_
  · intro f wz hf hx
    exact ⟨rfl, Ret.inl (hf), (unhide HX0).trans hx⟩
  intro t9 S9 v w9 hf hv cx9 hx9
  obtain ⟨kb, rfl⟩ := vNode_ptr hv
  have HP9 := hide (hf)
  have HV9 := hide hv
  clear hf hv
  go_wp2_with fail
  go_ret
  exact ⟨Ret.inr (unhide HP9) (unhide HV9) cx9, (unhide HX0).trans hx9⟩

end Go.Proofs.YtndgajlidckcdaaGreatDoor

namespace Go.Proofs.YtndgajlidckcdaaGreatDoor
open Go.RowKit
attribute [local go_sem ↓] Go.wp_at_zero Go.wp_at_succ

theorem any_any {w : World} {r D : Nat} {S : LS} (cx : Cx w r S) (hD : S.dp = D) {L : Low} (hL : LowC r D L) :
    Calls Tryz.prog 187 #[.pointer (some ⟨r, 0, none⟩)] w fun e w' => Ret (anyP L S) r (vNode w.heap.size) e w' ∧ Ext r w w' := by
  cases hb0 : S.is wVar with
  | true =>
    rw [show anyP L S = (variableP L S) by rw [anyP, if_pos hb0]]
    exact any_any_0 cx hD hL hb0
  | false =>
    cases hb1 : S.is wIf with
    | true =>
      rw [show anyP L S = (choiceP L S) by rw [anyP, if_neg (by rw [hb0]; decide), if_pos hb1]]
      exact any_any_1 cx hD hL hb0 hb1
    | false =>
      cases hb2 : S.is wWhile with
      | true =>
        rw [show anyP L S = (guardedP L 11 S) by rw [anyP, if_neg (by rw [hb0]; decide), if_neg (by rw [hb1]; decide), if_pos hb2]]
        exact any_any_2 cx hD hL hb0 hb1 hb2
      | false =>
        cases hb3 : S.is wReturn with
        | true =>
          rw [show anyP L S = (returnedP L S) by rw [anyP, if_neg (by rw [hb0]; decide), if_neg (by rw [hb1]; decide), if_neg (by rw [hb2]; decide), if_pos hb3]]
          exact any_any_3 cx hD hL hb0 hb1 hb2 hb3
        | false =>
          cases hb4 : S.is wThrow with
          | true =>
            rw [show anyP L S = (endP 13 L.V S) by rw [anyP, if_neg (by rw [hb0]; decide), if_neg (by rw [hb1]; decide), if_neg (by rw [hb2]; decide), if_neg (by rw [hb3]; decide), if_pos hb4]]
            exact any_any_4 cx hD hL hb0 hb1 hb2 hb3 hb4
          | false =>
            cases hb5 : S.is wPrint with
            | true =>
              rw [show anyP L S = (endP 16 (inParP L) S) by rw [anyP, if_neg (by rw [hb0]; decide), if_neg (by rw [hb1]; decide), if_neg (by rw [hb2]; decide), if_neg (by rw [hb3]; decide), if_neg (by rw [hb4]; decide), if_pos hb5]]
              exact any_any_5 cx hD hL hb0 hb1 hb2 hb3 hb4 hb5
            | false =>
              cases hb6 : S.is wTry with
              | true =>
                rw [show anyP L S = (tryP L S) by rw [anyP, if_neg (by rw [hb0]; decide), if_neg (by rw [hb1]; decide), if_neg (by rw [hb2]; decide), if_neg (by rw [hb3]; decide), if_neg (by rw [hb4]; decide), if_neg (by rw [hb5]; decide), if_pos hb6]]
                exact any_any_6 cx hD hL hb0 hb1 hb2 hb3 hb4 hb5 hb6
              | false =>
                rw [show anyP L S = (bareP L S) by rw [anyP, if_neg (by rw [hb0]; decide), if_neg (by rw [hb1]; decide), if_neg (by rw [hb2]; decide), if_neg (by rw [hb3]; decide), if_neg (by rw [hb4]; decide), if_neg (by rw [hb5]; decide), if_neg (by rw [hb6]; decide)]]
                exact any_any_7 cx hD hL hb0 hb1 hb2 hb3 hb4 hb5 hb6

set_option maxRecDepth 100000 in
set_option maxHeartbeats 4000000 in
theorem statement_of {w : World} {r : Nat} {S : LS} {P : LS → Res Tree} (hc : Calls Tryz.prog 111 #[.pointer (some ⟨r, 0, none⟩), .func (.func 187) #[.pointer (some ⟨r, 0, none⟩)] #[]] w fun e w' => Ret (P S) r (vNode w.heap.size) e w' ∧ Ext r w w') :
    Calls Tryz.prog 125 #[.pointer (some ⟨r, 0, none⟩)] w fun e w' => Ret (P S) r (vNode w.heap.size) e w' ∧ Ext r w w' := by
  have HC := hide hc
  clear hc
  go_enter Tryz.func125, Tryz.ntmps125
  go_wp2_with fail
  refine Ret.call (unhide HC) ?_ ?_
  · intro f wz hf hx
    exact ⟨rfl, Ret.inl hf, hx⟩
  intro t9 S9 v w9 hf hv cx9 hx9
  obtain ⟨kb, rfl⟩ := vNode_ptr hv
  have HP9 := hide hf
  have HV9 := hide hv
  clear hf hv
  go_wp2_with fail
  go_ret
  exact ⟨Ret.inr (unhide HP9) (unhide HV9) cx9, hx9⟩

set_option maxRecDepth 100000 in
set_option maxHeartbeats 4000000 in
theorem value_of {w : World} {r : Nat} {S : LS} (cx : Cx w r S) {P : LS → Res Tree} (hc : Calls Tryz.prog 111 #[.pointer (some ⟨r, 0, none⟩), .func (.func 112) #[] #[.pointer (some ⟨jbase r 1 + 2, 0, none⟩), .pointer (some ⟨jbase r 1, 0, none⟩), .pointer (some ⟨jbase r 1 + 1, 0, none⟩)]] w fun e w' => Ret (P S) r (vNode w.heap.size) e w' ∧ Ext r w w') :
    Calls Tryz.prog 172 #[.pointer (some ⟨r, 0, none⟩)] w fun e w' => Ret (P S) r (vNode w.heap.size) e w' ∧ Ext r w w' := by
  have c10 : w.cell? ⟨r, 10, none⟩ = some (.func (.func 112) #[] #[.pointer (some ⟨jbase r 1 + 2, 0, none⟩), .pointer (some ⟨jbase r 1, 0, none⟩), .pointer (some ⟨jbase r 1 + 1, 0, none⟩)]) := by
    rw [cx.rd.c10, cx.jn]
    rfl
  have HC := hide hc
  clear hc cx
  go_enter Tryz.func172, Tryz.ntmps172
  go_wp2_with fail
  refine Ret.call (unhide HC) ?_ ?_
  · intro f wz hf hx
    exact ⟨rfl, Ret.inl hf, hx⟩
  intro t9 S9 v w9 hf hv cx9 hx9
  obtain ⟨kb, rfl⟩ := vNode_ptr hv
  have HP9 := hide hf
  have HV9 := hide hv
  clear hf hv c10
  go_wp2_with fail
  go_ret
  exact ⟨Ret.inr (unhide HP9) (unhide HV9) cx9, hx9⟩

set_option maxRecDepth 100000 in
set_option maxHeartbeats 4000000 in
theorem deeper_full {w : World} {r : Nat} {S : LS} (cx : Cx w r S) (hD : S.dp = 25) (P : LS → Res Tree) (fv : Value) :
    Calls Tryz.prog 111 #[.pointer (some ⟨r, 0, none⟩), fv] w fun e w' => Ret (deepP P S) r (vNode w.heap.size) e w' ∧ Ext r w w' := by
  have c9 := cx.rd.c9
  have HC := hide cx
  clear cx
  have HE := hide (show deepP P S = .inl (4, S.tp) by rw [deepP, if_pos hD])
  have b0 : ((S.dp : Int) == 25) = true := by rw [beq_iff_eq]; omega
  clear hD
  go_enter Tryz.func111, Tryz.ntmps111
  go_wp2_with fail
  refine (fail_any (unhide HC).rd _).mono ?_
  rintro e w3 ⟨rfl, rfl⟩
  exact ⟨rfl, Ret.inl (unhide HE), Ext.refl _ _⟩

/-- WHAT READS AT ANY DEPTH. -/
theorem low_any (r : Nat) : ∀ (d : Nat), d ≤ 25 → LowC r (25 - d) (lower (d + 1))
  | 0, _ => ⟨lower_good 1, fun _ _ cx hd => value_of cx (deeper_full cx hd _ _), fun _ _ cx hd => statement_of (deeper_full cx hd _ _), fun _ _ cx hd => deeper_full cx hd _ _⟩
  | d + 1, h => by
    have ih := low_any r d (by omega)
    have e : 25 - d = 25 - (d + 1) + 1 := by omega
    rw [e] at ih
    exact ⟨lower_good (d + 2),
      fun _ _ cx hd => value_of cx (deeper_joined cx hd (by omega) (jo (prefixedP (lower (d + 1))) 6) (jo_good (prefixedP_good ih.good) 6) fun w S cx hd => joined_any ih 5 (by omega) w S cx hd),
      fun _ _ cx hd => statement_of (deeper_any cx hd (by omega) (anyP (lower (d + 1))) (anyP_good ih.good) fun _ _ cx hd => any_any cx hd ih),
      fun _ _ cx hd => deeper_prefixed cx hd (by omega) (prefixedP (lower (d + 1))) (prefixedP_good ih.good) fun _ _ cx hd => prefixed_any cx hd ih⟩
end Go.Proofs.YtndgajlidckcdaaGreatDoor
