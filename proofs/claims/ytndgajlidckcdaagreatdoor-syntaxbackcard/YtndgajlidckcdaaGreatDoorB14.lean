/-
  What stands behind a dot.
  Values with what stands behind them.
  Values with signs ahead.
  Values with signs between.
-/
import Derived.Test.YtndgajlidckcdaaGreatDoorB13
namespace Go.Proofs.YtndgajlidckcdaaGreatDoor
open Go.RowKit
attribute [local go_sem ↓] Go.wp_at_zero Go.wp_at_succ

theorem ent_args (r : Nat) : ∀ w : World, Sem.run Tryz.prog (callFunc 174 #[.pointer (some ⟨r, 0, none⟩)]) w = .ok (.enter 174 #[.pointer (some ⟨r, 0, none⟩)]) w := fun _ => by kernel_rfl
theorem args_none {w : World} {r D : Nat} {S : LS} (cx : Cx w r S) (hD : S.dp = D) {L : Low} (hL : LowC r D L) (hN : ∀ us S1, argsP L S = .inr (us, S1) → us = []) :
    Calls Tryz.prog 174 #[.pointer (some ⟨r, 0, none⟩)] w fun e w' => Ret (argsP L S) r (fun us v _ => us = [] ∧ v = .slice none 0 0) e w' ∧ Ext r w w' := by
  refine Ret.call (args_any cx hD hL) ?_ ?_
  · intro f' w' hf hx
    exact ⟨Ret.inl hf, hx⟩
  · intro a S' v w' hf hv hc hx
    obtain ⟨vs, _, h0, _⟩ := hv
    exact ⟨Ret.inr hf ⟨hN _ _ hf, h0 (hN _ _ hf)⟩ hc, hx⟩
theorem args_cons {w : World} {r D : Nat} {S S1 : LS} (cx : Cx w r S) (hD : S.dp = D) {L : Low} (hL : LowC r D L) {us : List Tree} (hA : argsP L S = .inr (us, S1)) (h0 : us ≠ []) :
    Calls Tryz.prog 174 #[.pointer (some ⟨r, 0, none⟩)] w fun e w' => ∃ g cap xs, e = .returned (.slice (some ⟨g, 0, none⟩) xs.length cap) ∧ 0 < xs.length ∧ xs.length ≤ 8 ∧ Hid (Lst w.heap.size w' (.slice (some ⟨g, 0, none⟩) xs.length cap) xs us) ∧
      Hid (∀ j u, xs[j]? = some u → w'.cell? ((⟨g, 0, none⟩ : Addr).add j) = some u) ∧ Hid (∀ u ∈ xs, u.oneCell' = true) ∧ Cx w' r S1 ∧ Ext r w w' := by
  refine Ret.call (args_any cx hD hL) ?_ ?_
  · intro f' w' hf hx
    rw [hA] at hf
    cases hf
  · intro a S' v w' hf hv hc hx
    rw [hA] at hf
    cases hf
    obtain ⟨xs, hl, _, h8⟩ := hv
    have hp : 0 < us.length := List.length_pos_iff.2 h0
    obtain ⟨g, cap, rfl, hn, h1, _⟩ := hl.lies hp
    have hlen := hl.len
    exact ⟨g, cap, xs, rfl, by omega, by omega, hl, hn, h1, hc, hx⟩
/-- The list of a node with kids. -/
theorem Und.kform {lo : Nat} {w : World} {b k : Nat} {tx un : ByteArray} {n : Int} {ln : Nat} {ts : List Tree} {ks : Value} {vs : List Value} (h : Und (fun j => lo ≤ j) w b k tx un n ln ts ks vs) (hp : 0 < vs.length) : ∃ g cap, ks = .slice (some ⟨g, 0, none⟩) vs.length cap ∧ vs.length ≤ cap := by
  rcases h.row with ⟨rfl, rfl⟩ | ⟨g, cap, cur, rfl, _, _, h4, _⟩
  · exact absurd hp (by decide)
  · exact ⟨g, cap, rfl, h4⟩

set_option maxRecDepth 100000 in
set_option maxHeartbeats 8000000 in
theorem member_any {w : World} {r D : Nat} {S : LS} (cx : Cx w r S) (hD : S.dp = D) {L : Low} (hL : LowC r D L) {w0 : World} {b : Nat} {t : Tree} (hx0 : Ext r w0 w) (hr0 : r + 18 < w0.heap.size) (hf0 : NodeAt (fun j => w0.heap.size ≤ j) w (.pointer (some ⟨b, 0, none⟩)) t) :
    Calls Tryz.prog 171 #[.pointer (some ⟨r, 0, none⟩), .pointer (some ⟨b, 0, none⟩)] w fun e w' => Ret (memberP L t S) r (vNode w0.heap.size) e w' ∧ Ext r w0 w' := by
  obtain ⟨i0, hi, hz0, hz1, hz2⟩ := info_parts infoNode
  have HL := hide hL
  clear hL
  have HX0 := hide hx0
  clear hx0
  have HF0 := hide hf0
  clear hf0
  have hd0 := hD
  have HC0 := hide cx
  clear cx
  go_enter Tryz.func171, Tryz.ntmps171
  go_wp2_with fail
  refine (around_one (k := 42) (unhide HX0).size (unhide HF0)).mono ?_
  rintro e w1 ⟨n, ks1, rfl, hn, hu, ha⟩
  have hn0 : w0.heap.size ≤ n := Nat.le_trans (unhide HX0).size hn
  have HU1 := hide hu
  have HX1 := hide ((unhide HX0).trans (ha.ext r))
  have HC1 := hide ((unhide HC0).add ha)
  have hd1 := hd0
  clear hu ha hn HC0 HX0 HF0
  go_wp2_with fail
  refine Ret.call (name_any (unhide HC1)) ?_ ?_
  · intro f wz hf hx
    exact ⟨rfl, Ret.inl (bnd_inl hf), (unhide HX1).trans hx⟩
  intro s2 S2 v w2 hf hv cx2 hx
  obtain rfl : v = .string s2 := hv
  have hon2 := name_on (unhide HC1).ok hf
  have hd2 : S2.dp = D := hon2.same.dp.trans hd1
  have HP2 := hide (show (memberP L t S) = _ from bnd_inr hf)
  have HU2 := hide ((unhide HU1).ext hx fun j hj => by omega)
  have HX2 := hide ((unhide HX1).trans hx)
  have HC2 := hide cx2
  clear hf hx cx2 HC1 HX1 hd1 HU1
  obtain ⟨t0, hb⟩ := (unhide HU2).cells
  have dq : w2.cell? ⟨n, 1, none⟩ = some (.string noText) := hcell hb 1
  have gq := hfroz hb 1
  clear hb
  have HU3 := hide ((unhide HU2).put 1 (.string s2) (tx' := s2) rfl)
  have HX3 := hide ((unhide HX2).setNew ⟨n, 1, none⟩ hn0 (.string s2))
  have HC3 := hide ((unhide HC2).setCell (show r + 18 < n by omega) 1 (.string s2))
  have hd3 := hd2
  clear HU2 HX2 HC2
  go_wp2_with fail
  refine Ret.call (accept_any (unhide HC3) tOpen) ?_ ?_
  · intro f wz hf hx
    exact ⟨rfl, Ret.inl ((unhide HP2).trans (bnd_inl hf)), (unhide HX3).trans hx⟩
  intro b4 S4 v w4 hf hv cx4 hx
  obtain rfl : v = .bool b4 := hv
  have hon4 := (accept_on (unhide HC3).ok hf).1
  have hd4 : S4.dp = D := hon4.same.dp.trans hd3
  have HP4 := hide ((unhide HP2).trans (bnd_inr hf))
  have HU4 := hide ((unhide HU3).ext hx fun j hj => by omega)
  have HX4 := hide ((unhide HX3).trans hx)
  have HC4 := hide cx4
  clear hf hx cx4 HC3 HX3 hd3 HP2 HU3
  clear dq gq
  cases b4 with
  | false =>
    have HPf : Hid (memberP L t S = .inr (ndT 42 s2 t.line [t], S4)) := unhide HP4
    clear HP4
    go_wp2_with fail
    go_ret
    exact ⟨Ret.inr (unhide HPf) ((unhide HU4).node) (unhide HC4), unhide HX4⟩
  | true =>
    have HPt : Hid (memberP L t S = bnd (argsP L S4) fun us S3 => .inr (ndT 43 s2 t.line (t :: us), S3)) := unhide HP4
    clear HP4
    have hent := ent_args r
    obtain ⟨g1, cap1, rfl, hcap⟩ := (unhide HU4).kform (by simp)
    have hcap1 : 1 ≤ cap1 := hcap
    clear hcap
    obtain ⟨t0, hb⟩ := (unhide HU4).cells
    have d5 : w4.cell? ⟨n, 5, none⟩ = some (.slice (some ⟨g1, 0, none⟩) 1 cap1) := hcell hb 5
    have g5 := hfroz hb 5
    have d0 : w4.cell? ⟨n, 0, none⟩ = some (.int .i64 42) := hcell hb 0
    have g0 := hfroz hb 0
    clear hb
    by_cases hc : ∃ us S5, argsP L S4 = .inr (us, S5) ∧ us ≠ []
    rotate_left
    ·
      have HN : Hid (∀ us S1, argsP L S4 = .inr (us, S1) → us = []) := fun us S1 h => Classical.byContradiction fun h0 => hc ⟨us, S1, h, h0⟩
      clear hc
      go_wp2_with fail
      go_region_law (refine step_call rfl (by simp [Act.eval, hent, go_sem]) (Ret.call (args_none (unhide HC4).drew hd4 (unhide HL) (unhide HN)) (fun f w2 hf hx => ⟨rfl, Ret.inl ((unhide HPt).trans (bnd_inl hf)), ((unhide HX4).drew).trans hx⟩) ?_); intro us S5 v w5 hf hv cx5 hx; obtain ⟨rfl, rfl⟩ := hv; have HP5 := hide ((unhide HPt).trans (bnd_inr hf)); have HU5 := hide ((unhide HU4).drew.ext hx fun j hj => by omega); have HX5 := hide (((unhide HX4).drew).trans hx); have HC5 := hide cx5; clear hf cx5 hx; obtain ⟨t5, hb5⟩ := (unhide HU5).cells; have e5 : w5.cell? ⟨n, 5, none⟩ = some (.slice (some ⟨g1, 0, none⟩) 1 cap1) := hcell hb5 5; have f5 := hfroz hb5 5; have e0 : w5.cell? ⟨n, 0, none⟩ = some (.int .i64 42) := hcell hb5 0; have f0 := hfroz hb5 0; clear hb5)
      all_goals
        go_wp2_with fail
        go_ret
        exact ⟨Ret.inr (unhide HP5) (((unhide HU5).put 0 (.int .i64 43) (k' := 43) rfl).put 5 (.slice (some ⟨g1, 0, none⟩) 1 cap1) rfl).node (((unhide HC5).setCell (show r + 18 < n by omega) _ _).setCell (show r + 18 < n by omega) _ _), ((unhide HX5).setNew ⟨n, 0, none⟩ hn0 _).setNew ⟨n, 5, none⟩ hn0 _⟩
    · obtain ⟨us, S5, hA, hne⟩ := hc
      have HNE := hide hne
      have HP5 := hide ((unhide HPt).trans (bnd_inr hA))
      have HA := hide hA
      clear hA HPt hne
      go_wp2_with fail
      go_region_law ((first | (refine step_append_lies _ (by rfl) _ _ _ (by rfl) 0 22 i0 (.pointer none) 1 8 Tryz.underlying51 hi hz0 hz1 hz2 rfl (by decide) (.slice (some ⟨g1, 0, none⟩) 1 cap1) 1 [.pointer (some ⟨b, 0, none⟩)] (by rfl) (unhide HU5).row.owns ⟨g, 0, none⟩ xs.length cap xs (by rfl) (Nat.mul_one _).symm (unhide HN5) (unhide H15) hxs0 (by unfold maxLen; omega) (by omega) (Nat.zero_le _) w5.heap.size rfl ?_; intro g6 cap6 w6 hown hgrow hat hlt; have hq := kids_more 43 rfl (unhide HU4).drew (unhide HU5) hr0 (unhide HC5) (unhide HX5) (unhide HL5).len (fun i h => ((unhide HL5).kids i h).mono fun j hj => hj.1) hown hgrow hat; clear hown hgrow hat hlt; have e5 := hq.1; have f5 := hq.2.1; have e0 := hq.2.2.1; have f0 := hq.2.2.2.1; have HQ := hide hq; clear hq) | (refine step_call rfl (by simp [Act.eval, hent, go_sem]) ((args_cons (unhide HC4).drew hd4 (unhide HL) (unhide HA) (unhide HNE)).mono ?_); rintro e w5 ⟨g, cap, xs, rfl, hxs0, hxs8, HL5, HN5, H15, cx5, hx⟩; have HU5 := hide ((unhide HU4).drew.ext hx fun j hj => by omega); have HX5 := hide (((unhide HX4).drew).trans hx); have HC5 := hide cx5; clear cx5 hx; obtain ⟨t5, hb5⟩ := (unhide HU5).cells; have e5 : w5.cell? ⟨n, 5, none⟩ = some (.slice (some ⟨g1, 0, none⟩) 1 cap1) := hcell hb5 5; clear hb5)))
      all_goals
        go_wp2_with fail
        go_ret
        exact ⟨Ret.inr (unhide HP5) (unhide (unhide HQ).2.2.2.2.1).node (unhide (unhide HQ).2.2.2.2.2.2), unhide (unhide HQ).2.2.2.2.2.1⟩

end Go.Proofs.YtndgajlidckcdaaGreatDoor

namespace Go.Proofs.YtndgajlidckcdaaGreatDoor
open Go.RowKit
attribute [local go_sem ↓] Go.wp_at_zero Go.wp_at_succ

theorem Lst.mono {lo lo2 : Nat} {w : World} {ks : Value} {vs : List Value} {ts : List Tree} (h : Lst lo w ks vs ts) (hle : lo2 ≤ lo) : Lst lo2 w ks vs ts :=
  ⟨h.row.keep (fun _ hj => Nat.le_trans hle hj) (fun _ _ _ => rfl), h.len, fun i hi => (h.kids i hi).mono fun _ hj => ⟨Nat.le_trans hle hj.1, hj.2⟩⟩

set_option maxRecDepth 100000 in
set_option maxHeartbeats 8000000 in
theorem suffixed_any {w : World} {r D : Nat} {S : LS} (cx : Cx w r S) (hD : S.dp = D) {L : Low} (hL : LowC r D L) :
    Calls Tryz.prog 109 #[.pointer (some ⟨r, 0, none⟩)] w fun e w' => Ret (suffixedP L S) r (vNode w.heap.size) e w' ∧ Ext r w w' := by
  obtain ⟨i0, hi, hz0, hz1, hz2⟩ := info_parts infoNode
  have hr0 := cx.jc.lt
  have HL := hide hL
  clear hL
  have HX0 : Hid (Ext r w w) := Ext.refl r w
  have hd0 := hD
  have HC0 := hide cx
  clear cx
  go_enter Tryz.func109, Tryz.ntmps109
  go_wp2_with fail
  refine Ret.call (simple_any (unhide HC0) hd0 (unhide HL)) ?_ ?_
  · intro f wz hf hx
    exact ⟨rfl, Ret.inl (bnd_inl hf), (unhide HX0).trans hx⟩
  intro t1 S1 v w1 hf hv cx1 hx1
  obtain ⟨b1, rfl⟩ := vNode_ptr hv
  have hon1 := simpleP_good (unhide HL).good _ _ _ (unhide HC0).ok hf
  have hd1 : S1.dp = D := hon1.same.dp.trans hd0
  have HP1 : Hid (suffixedP L S = sufLoop L 3002 t1 S1) := bnd_inr hf
  have HN1 := hide hv
  have HX1 := hide ((unhide HX0).trans hx1)
  clear hf hv hx1 hon1 HX0 HC0
  go_wp2_with fail
  go_loopg [3] 3002 (fun gg l wr => ∃ (S' : LS) (b : Nat) (t : Tree), l = .pointer (some ⟨b, 0, none⟩) ∧ Cx wr r S' ∧ S'.dp = D ∧ Hid (NodeAt (fun j => w.heap.size ≤ j) wr (.pointer (some ⟨b, 0, none⟩)) t) ∧ Hid (Ext r w wr) ∧ 3002 ≤ gg + S'.tp ∧ Hid (sufLoop L gg t S' = suffixedP L S))
  case atStart => exact ⟨S1, b1, t1, rfl, cx1, hd1, unhide HN1, unhide HX1, by omega, (unhide HP1).symm⟩
  case round =>
    clear cx1 hd1 HN1 HX1 HP1 hd0
    obtain ⟨S', b, t, rfl, cx, hdp, HN, HX, hgg, HE⟩ := hrel
    have htp : S'.tp ≤ 3000 := Nat.le_trans cx.ok.tp (Nat.le_trans cx.ok.fit.pl cx.ok.fit.size)
    obtain ⟨f, hgf⟩ : ∃ f, gk = f + 1 := ⟨gk - 1, by omega⟩
    subst hgf
    have HE1 : Hid ((bnd (acceptP tDot S') fun b S1 => if b = true then bnd (memberP L t S1) fun u S2 => sufLoop L f u S2
    else bnd (acceptP tSquare S1) fun b S2 => if b = true then bnd (L.V S2) fun u S3 => bnd (wantP tSquared S3) fun _ S4 => sufLoop L f (around 44 t [u]) S4
    else bnd (acceptP tOpen S2) fun b S3 => if b = true then bnd (argsP L S3) fun us S4 => sufLoop L f (around 45 t us) S4 else .inr (t, S3)) = suffixedP L S) := unhide HE
    have HC := hide cx
    clear HE cx
    go_wp2_with fail
    refine Ret.call (accept_any (unhide HC) tDot) ?_ ?_
    · intro fl wz hf hx
      exact ⟨rfl, Ret.inl ((unhide HE1).symm.trans (bnd_inl hf)), (unhide HX).trans hx⟩
    intro c3 S3 v w3 hf hv cx3 hx
    obtain rfl : v = .bool c3 := hv
    have hon3 := accept_on (unhide HC).ok hf
    have hd3 : S3.dp = D := hon3.1.same.dp.trans hdp
    have HE3 := hide ((bnd_inr hf).symm.trans (unhide HE1))
    have HN3 := hide (NodeAt.ext (unhide HN) hx fun j hj => by omega)
    have HX3 := hide ((unhide HX).trans hx)
    have HC3 := hide cx3
    clear hf hx cx3 HE1 HN HX HC hdp
    cases c3 with
    | true =>
      have htp3 := (hon3.2.1 rfl).tp
      clear hon3
      have HE4 : Hid ((bnd (memberP L t S3) fun u S2 => sufLoop L f u S2) = suffixedP L S) := unhide HE3
      clear HE3
      go_wp2_with fail
      refine Ret.callX (X := Ext r w) (member_any (unhide HC3) hd3 (unhide HL) (unhide HX3) hr0 (unhide HN3)) ?_ ?_
      · intro fl wz hf hx
        exact ⟨rfl, Ret.inl ((unhide HE4).symm.trans (bnd_inl hf)), hx⟩
      intro u4 S4 v w4 hf hv cx4 hx4
      obtain ⟨b4, rfl⟩ := vNode_ptr hv
      have hon4 := memberP_on (unhide HL).good (unhide HC3).ok hf
      have hd4 : S4.dp = D := hon4.same.dp.trans hd3
      have htp4 := hon4.tp
      have HE5 := hide ((bnd_inr hf).symm.trans (unhide HE4))
      have HN4 := hide hv
      clear hf hv hon4 HE4 HN3 HX3 HC3
      go_wp2_with fail
      go_roundg f
      case measure => omega
      case rel => exact ⟨S4, b4, u4, rfl, cx4, hd4, unhide HN4, hx4, by omega, unhide HE5⟩
    | false =>
      obtain rfl := hon3.2.2 rfl
      clear hon3
      have HE4 : Hid ((bnd (acceptP tSquare S3) fun b S2 => if b = true then bnd (L.V S2) fun u S3 => bnd (wantP tSquared S3) fun _ S4 => sufLoop L f (around 44 t [u]) S4
    else bnd (acceptP tOpen S2) fun b S3 => if b = true then bnd (argsP L S3) fun us S4 => sufLoop L f (around 45 t us) S4 else .inr (t, S3)) = suffixedP L S) := unhide HE3
      clear HE3
      go_wp2_with fail
      refine Ret.call (accept_any (unhide HC3) tSquare) ?_ ?_
      · intro fl wz hf hx
        exact ⟨rfl, Ret.inl ((unhide HE4).symm.trans (bnd_inl hf)), (unhide HX3).trans hx⟩
      intro c5 S5 v w5 hf hv cx5 hx
      obtain rfl : v = .bool c5 := hv
      have hon5 := accept_on (unhide HC3).ok hf
      have hd5 : S5.dp = D := hon5.1.same.dp.trans hd3
      have HE5 := hide ((bnd_inr hf).symm.trans (unhide HE4))
      have HN5 := hide (NodeAt.ext (unhide HN3) hx fun j hj => by omega)
      have HX5 := hide ((unhide HX3).trans hx)
      have HC5 := hide cx5
      clear hf hx cx5 HE4 HN3 HX3 HC3 hd3
      cases c5 with
      | true =>
        have htp5 := (hon5.2.1 rfl).tp
        clear hon5
        have HE6 : Hid ((bnd (L.V S5) fun u S3 => bnd (wantP tSquared S3) fun _ S4 => sufLoop L f (around 44 t [u]) S4) = suffixedP L S) := unhide HE5
        clear HE5
        go_wp2_with fail
        refine Ret.call ((unhide HL).v _ _ (unhide HC5) hd5) ?_ ?_
        · intro fl wz hf hx
          exact ⟨rfl, Ret.inl ((unhide HE6).symm.trans (bnd_inl hf)), (unhide HX5).trans hx⟩
        intro u7 S7 v w7 hf hv cx7 hx
        obtain ⟨b7, rfl⟩ := vNode_ptr hv
        have hon7 := (unhide HL).good.v _ _ _ (unhide HC5).ok hf
        have hd7 : S7.dp = D := hon7.same.dp.trans hd5
        have htp7 := hon7.tp
        have HE7 := hide ((bnd_inr hf).symm.trans (unhide HE6))
        have HN7 := hide (NodeAt.ext (unhide HN5) hx fun j hj => by omega)
        have hsz5 := (unhide HX5).size
        have HM7 := hide (NodeAt.mono (A' := fun j => w.heap.size ≤ j) hv fun j hj => by omega)
        have HX7 := hide ((unhide HX5).trans hx)
        have HC7 := hide cx7
        clear hf hv hx cx7 hon7 HE6 HN5 HX5 HC5 hsz5
        go_wp2_with fail
        have ha7 : Add w7 (w7.alloc (.cells #[.pointer (some ⟨b7, 0, none⟩)] 22)) := (Add.refl w7).alloc _
        refine (around_two (k := 44) ((unhide HX7).alloc _).size ((unhide HN7).keep (fun _ h => h) (fun j _ hl => ha7.block j hl) _ _) ((unhide HM7).keep (fun _ h => h) (fun j _ hl => ha7.block j hl) _ _) (hnew _ _)).mono ?_
        rintro e w8 ⟨n8, ks8, rfl, hn8, hu8, ha8⟩
        have hq8 := ha7.trans ha8
        have HN8 := hide hu8.node
        have HX8 := hide ((unhide HX7).trans (hq8.ext r))
        have HC8 := hide ((unhide HC7).add hq8)
        clear hu8 ha8 ha7 hq8 hn8 HN7 HM7 HX7 HC7
        go_wp2_with fail
        refine Ret.call (want_any (unhide HC8) tSquared) ?_ ?_
        · intro fl wz hf hx
          exact ⟨rfl, Ret.inl ((unhide HE7).symm.trans (bnd_inl hf)), (unhide HX8).trans hx⟩
        intro a9 S9 v w9 hf hv cx9 hx
        obtain rfl : v = .tuple #[] := hv
        have hon9 := want_on (unhide HC8).ok hf
        have hd9 : S9.dp = D := hon9.same.dp.trans hd7
        have htp9 := hon9.tp
        have HE9 := hide ((bnd_inr hf).symm.trans (unhide HE7))
        have HN9 := hide (NodeAt.ext (unhide HN8) hx fun j hj => by omega)
        have HX9 := hide ((unhide HX8).trans hx)
        clear hf hx hon9 HE7 HN8 HX8 HC8
        go_wp2_with fail
        go_roundg f
        case measure => omega
        case rel => exact ⟨S9, n8, _, rfl, cx9, hd9, unhide HN9, unhide HX9, by omega, unhide HE9⟩
      | false =>
        obtain rfl := hon5.2.2 rfl
        clear hon5
        have HE6 : Hid ((bnd (acceptP tOpen S5) fun b S3 => if b = true then bnd (argsP L S3) fun us S4 => sufLoop L f (around 45 t us) S4 else .inr (t, S3)) = suffixedP L S) := unhide HE5
        clear HE5
        go_wp2_with fail
        refine Ret.call (accept_any (unhide HC5) tOpen) ?_ ?_
        · intro fl wz hf hx
          exact ⟨rfl, Ret.inl ((unhide HE6).symm.trans (bnd_inl hf)), (unhide HX5).trans hx⟩
        intro c7 S7 v w7 hf hv cx7 hx
        obtain rfl : v = .bool c7 := hv
        have hon7 := accept_on (unhide HC5).ok hf
        have hd7 : S7.dp = D := hon7.1.same.dp.trans hd5
        have HE7 := hide ((bnd_inr hf).symm.trans (unhide HE6))
        have HN7 := hide (NodeAt.ext (unhide HN5) hx fun j hj => by omega)
        have HX7 := hide ((unhide HX5).trans hx)
        have HC7 := hide cx7
        clear hf hx cx7 HE6 HN5 HX5 HC5 hd5
        cases c7 with
        | true =>
          have htp7 := (hon7.2.1 rfl).tp
          clear hon7
          have HE8 : Hid ((bnd (argsP L S7) fun us S4 => sufLoop L f (around 45 t us) S4) = suffixedP L S) := unhide HE7
          clear HE7
          go_wp2_with fail
          refine Ret.call (args_any (unhide HC7) hd7 (unhide HL)) ?_ ?_
          · intro fl wz hf hx
            exact ⟨rfl, Ret.inl ((unhide HE8).symm.trans (bnd_inl hf)), (unhide HX7).trans hx⟩
          intro us9 S9 v w9 hf hv cx9 hx
          have hon9 := listedP_good (unhide HL).good.v _ _ _ (unhide HC7).ok hf
          have hd9 : S9.dp = D := hon9.same.dp.trans hd7
          have htp9 := hon9.tp
          have HE9 := hide ((bnd_inr hf).symm.trans (unhide HE8))
          have hsz7 := (unhide HX7).size
          have HN9 := hide (NodeAt.ext (unhide HN7) hx fun j hj => by omega)
          have HX9 := hide ((unhide HX7).trans hx)
          have HC9 := hide cx9
          obtain ⟨vs, hl, h0, h8⟩ := hv
          obtain ⟨la, lcap, rfl⟩ := hl.form
          have HLS := hide (hl.mono hsz7)
          have H0 := hide h0
          have H8 := hide h8
          clear hf hx cx9 hon9 HE8 HN7 HX7 HC7 hl h0 h8 hsz7
          go_wp2_with fail
          refine (around_list (k := 45) (unhide HX9).size (unhide HN9) (unhide HLS) (unhide H0) (unhide H8)).mono ?_
          rintro e w10 ⟨n10, ks10, rfl, hn10, hu10, ha10⟩
          have HN10 := hide hu10.node
          have HX10 := hide ((unhide HX9).trans (ha10.ext r))
          have cx10 := (unhide HC9).add ha10
          clear hu10 ha10 hn10 HN9 HX9 HC9 HLS H0 H8
          go_wp2_with fail
          go_roundg f
          case measure => omega
          case rel => exact ⟨S9, n10, _, rfl, cx10, hd9, unhide HN10, unhide HX10, by omega, unhide HE9⟩
        | false =>
          obtain rfl := hon7.2.2 rfl
          have HE8 : Hid (Sum.inr (t, S7) = suffixedP L S) := unhide HE7
          clear HE7 hon7
          go_wp2_with fail
          go_ret
          exact ⟨Ret.inr (unhide HE8).symm (unhide HN7) (unhide HC7), unhide HX7⟩

end Go.Proofs.YtndgajlidckcdaaGreatDoor

namespace Go.Proofs.YtndgajlidckcdaaGreatDoor
open Go.RowKit
attribute [local go_sem ↓] Go.wp_at_zero Go.wp_at_succ

theorem ent_deep (r : Nat) : ∀ w : World, Sem.run Tryz.prog (callFunc 111 #[.pointer (some ⟨r, 0, none⟩), .func (.func 72) #[.pointer (some ⟨r, 0, none⟩)] #[]]) w = .ok (.enter 111 #[.pointer (some ⟨r, 0, none⟩), .func (.func 72) #[.pointer (some ⟨r, 0, none⟩)] #[]]) w := fun _ => by kernel_rfl

set_option maxRecDepth 100000 in
set_option maxHeartbeats 8000000 in
theorem prefixed_any_0 {w : World} {r D : Nat} {S : LS} (cx : Cx w r S) (hD : S.dp = D) {L : Low} (hL : LowC r D L) (hb0 : S.is tNot = true) :
    Calls Tryz.prog 72 #[.pointer (some ⟨r, 0, none⟩)] w fun e w' => Ret (signedP L 41 S) r (vNode w.heap.size) e w' ∧ Ext r w w' := by
  obtain ⟨i0, hi, hz0, hz1, hz2⟩ := info_parts infoNode
  have hr0 := cx.jc.lt
  have HL := hide hL
  clear hL
  have HX0 : Hid (Ext r w w) := Ext.refl r w
  have hd0 := hD
  have HC0 := hide cx
  clear cx
  go_enter Tryz.func72, Tryz.ntmps72
  have hk := is_kd hb0
  go_wp2_with fail
  refine (is_c (unhide HC0).rd tNot hb0).mono ?_
  rintro e wz ⟨rfl, rfl⟩
  go_wp2_with fail
  refine Ret.call (taken_any (unhide HC0) 41) ?_ ?_
  · intro f wz hf hx
    exact ⟨rfl, Ret.inl (bnd_inl hf), (unhide HX0).trans hx⟩
  intro a1 S1 v w1 hf hv cx1 hx
  obtain ⟨rfl, hu⟩ := hv
  have HU1 := hide hu
  have hon1 := take_on (unhide HC0).ok hk hf
  have hd1 : S1.dp = D := hon1.same.dp.trans hd0
  have HP1 := hide (show (signedP L 41 S) = _ from bnd_inr hf)
  have HX1 := hide ((unhide HX0).trans hx)
  have HC1 := hide cx1
  clear hf hx cx1 HC0 HX0 hd0 hu
  obtain ⟨ks1, vs1, HU⟩ : ∃ ks vs, Hid (Und (fun j => w.heap.size ≤ j) w1 w.heap.size 41 noText noText 0 S.tl ([]) ks vs) := ⟨_, _, unhide HU1⟩
  have hvs1 : vs1.length ≤ 3000 := by rw [(unhide HU).len]; exact (by simp : ([]).length ≤ 3000)
  obtain ⟨t0, hb⟩ := (unhide HU).cells
  have d5 : w1.cell? ⟨w.heap.size, 5, none⟩ = some ks1 := hcell hb 5
  have g5 := hfroz hb 5
  have hent := ent_deep r
  clear hb HU1
  go_wp2_with fail
  go_cut [] (fun wc => ∃ (t : Tree) (S4 : LS) (ks' : Value) (vs' : List Value), Hid (L.N S1 = .inr (t, S4)) ∧ Cx wc r S4 ∧ Hid (Und (fun j => w.heap.size ≤ j) wc w.heap.size 41 noText noText 0 S.tl ([] ++ [t]) ks' vs') ∧ Hid (Ext r w wc))
  case first =>
    go_region_law ((first | (refine step_append_lies _ (by rfl) _ _ _ (by rfl) 0 22 i0 (.pointer none) 1 8 Tryz.underlying51 hi hz0 hz1 hz2 rfl (by decide) ks1 vs1.length vs1 (by rfl) ((unhide HO2).alloc _) ⟨w2.heap.size, 0, none⟩ 1 1 [.pointer (some ⟨kb, 0, none⟩)] (by rfl) rfl (cell_one_new _ _ _) (fun u hu => by simp at hu; subst hu; rfl) (by decide) (by unfold maxLen; omega) (by omega) (Nat.zero_le _) (w2.heap.size + 1) (by simp) ?_; intro g cap w3 hown hgrow hat hlt; obtain ⟨e6, f6, HU3, HX3, HC3⟩ := kid_more rfl (unhide HU).drew (unhide HU2) hr0 (unhide HC2) (unhide HX2) (unhide HV2) _ hown hgrow hat; clear hown hgrow hat hlt) | (refine step_call rfl (by simp [Act.eval, hent, go_sem]) (Ret.call ((unhide HL).n _ _ (unhide HC1).drew hd1) (fun f w2 hf hx => ⟨rfl, Ret.inl ((unhide HP1).trans (bnd_inl hf)), ((unhide HX1).drew).trans hx⟩) ?_); intro t S1 v w2 hf hv cx1 hx; obtain ⟨kb, rfl⟩ := vNode_ptr hv; obtain ⟨e5, e5a, HO2, HU2⟩ := kid_call (unhide HU).drew hx (by omega); have HV2 := hide hv; have HC2 := hide cx1; have HX2 := hide (((unhide HX1).drew).trans hx); have HF := hide hf; clear hv cx1 hx hf)))
    all_goals
      go_wp2_with fail
      go_meet
      exact ⟨t, _, _, _, unhide HF, unhide HC3, unhide HU3, unhide HX3⟩
  case rest =>
    obtain ⟨t2, S2, ks2, vs2, HF, cx2, HU2, HX2⟩ := hcut
    have hon2 := (unhide HL).good.n _ _ _ (unhide HC1).ok (unhide HF)
    have hd2 : S2.dp = D := hon2.same.dp.trans hd1
    have HP2 := hide ((unhide HP1).trans (bnd_inr (unhide HF)))
    have HC2 := hide cx2
    clear d5 g5 hent HU HX1 HC1 HF cx2 hd1 hvs1 HP1
    go_wp2_with fail
    go_ret
    exact ⟨Ret.inr (unhide HP2) ((unhide HU2).node) (unhide HC2), unhide HX2⟩

set_option maxRecDepth 100000 in
set_option maxHeartbeats 8000000 in
theorem prefixed_any_1 {w : World} {r D : Nat} {S : LS} (cx : Cx w r S) (hD : S.dp = D) {L : Low} (hL : LowC r D L) (hb0 : S.is tNot = false) (hb1 : S.is tMinus = true) :
    Calls Tryz.prog 72 #[.pointer (some ⟨r, 0, none⟩)] w fun e w' => Ret (signedP L 40 S) r (vNode w.heap.size) e w' ∧ Ext r w w' := by
  obtain ⟨i0, hi, hz0, hz1, hz2⟩ := info_parts infoNode
  have hr0 := cx.jc.lt
  have HL := hide hL
  clear hL
  have HX0 : Hid (Ext r w w) := Ext.refl r w
  have hd0 := hD
  have HC0 := hide cx
  clear cx
  go_enter Tryz.func72, Tryz.ntmps72
  have hk := is_kd hb1
  go_wp2_with fail
  refine (is_c (unhide HC0).rd tNot hb0).mono ?_
  rintro e wz ⟨rfl, rfl⟩
  go_wp2_with fail
  refine (is_c (unhide HC0).rd tMinus hb1).mono ?_
  rintro e wz ⟨rfl, rfl⟩
  go_wp2_with fail
  refine Ret.call (taken_any (unhide HC0) 40) ?_ ?_
  · intro f wz hf hx
    exact ⟨rfl, Ret.inl (bnd_inl hf), (unhide HX0).trans hx⟩
  intro a1 S1 v w1 hf hv cx1 hx
  obtain ⟨rfl, hu⟩ := hv
  have HU1 := hide hu
  have hon1 := take_on (unhide HC0).ok hk hf
  have hd1 : S1.dp = D := hon1.same.dp.trans hd0
  have HP1 := hide (show (signedP L 40 S) = _ from bnd_inr hf)
  have HX1 := hide ((unhide HX0).trans hx)
  have HC1 := hide cx1
  clear hf hx cx1 HC0 HX0 hd0 hu
  obtain ⟨ks1, vs1, HU⟩ : ∃ ks vs, Hid (Und (fun j => w.heap.size ≤ j) w1 w.heap.size 40 noText noText 0 S.tl ([]) ks vs) := ⟨_, _, unhide HU1⟩
  have hvs1 : vs1.length ≤ 3000 := by rw [(unhide HU).len]; exact (by simp : ([]).length ≤ 3000)
  obtain ⟨t0, hb⟩ := (unhide HU).cells
  have d5 : w1.cell? ⟨w.heap.size, 5, none⟩ = some ks1 := hcell hb 5
  have g5 := hfroz hb 5
  have hent := ent_deep r
  clear hb HU1
  go_wp2_with fail
  go_cut [] (fun wc => ∃ (t : Tree) (S4 : LS) (ks' : Value) (vs' : List Value), Hid (L.N S1 = .inr (t, S4)) ∧ Cx wc r S4 ∧ Hid (Und (fun j => w.heap.size ≤ j) wc w.heap.size 40 noText noText 0 S.tl ([] ++ [t]) ks' vs') ∧ Hid (Ext r w wc))
  case first =>
    go_region_law ((first | (refine step_append_lies _ (by rfl) _ _ _ (by rfl) 0 22 i0 (.pointer none) 1 8 Tryz.underlying51 hi hz0 hz1 hz2 rfl (by decide) ks1 vs1.length vs1 (by rfl) ((unhide HO2).alloc _) ⟨w2.heap.size, 0, none⟩ 1 1 [.pointer (some ⟨kb, 0, none⟩)] (by rfl) rfl (cell_one_new _ _ _) (fun u hu => by simp at hu; subst hu; rfl) (by decide) (by unfold maxLen; omega) (by omega) (Nat.zero_le _) (w2.heap.size + 1) (by simp) ?_; intro g cap w3 hown hgrow hat hlt; obtain ⟨e6, f6, HU3, HX3, HC3⟩ := kid_more rfl (unhide HU).drew (unhide HU2) hr0 (unhide HC2) (unhide HX2) (unhide HV2) _ hown hgrow hat; clear hown hgrow hat hlt) | (refine step_call rfl (by simp [Act.eval, hent, go_sem]) (Ret.call ((unhide HL).n _ _ (unhide HC1).drew hd1) (fun f w2 hf hx => ⟨rfl, Ret.inl ((unhide HP1).trans (bnd_inl hf)), ((unhide HX1).drew).trans hx⟩) ?_); intro t S1 v w2 hf hv cx1 hx; obtain ⟨kb, rfl⟩ := vNode_ptr hv; obtain ⟨e5, e5a, HO2, HU2⟩ := kid_call (unhide HU).drew hx (by omega); have HV2 := hide hv; have HC2 := hide cx1; have HX2 := hide (((unhide HX1).drew).trans hx); have HF := hide hf; clear hv cx1 hx hf)))
    all_goals
      go_wp2_with fail
      go_meet
      exact ⟨t, _, _, _, unhide HF, unhide HC3, unhide HU3, unhide HX3⟩
  case rest =>
    obtain ⟨t2, S2, ks2, vs2, HF, cx2, HU2, HX2⟩ := hcut
    have hon2 := (unhide HL).good.n _ _ _ (unhide HC1).ok (unhide HF)
    have hd2 : S2.dp = D := hon2.same.dp.trans hd1
    have HP2 := hide ((unhide HP1).trans (bnd_inr (unhide HF)))
    have HC2 := hide cx2
    clear d5 g5 hent HU HX1 HC1 HF cx2 hd1 hvs1 HP1
    go_wp2_with fail
    go_ret
    exact ⟨Ret.inr (unhide HP2) ((unhide HU2).node) (unhide HC2), unhide HX2⟩

set_option maxRecDepth 100000 in
set_option maxHeartbeats 8000000 in
theorem prefixed_any_2 {w : World} {r D : Nat} {S : LS} (cx : Cx w r S) (hD : S.dp = D) {L : Low} (hL : LowC r D L) (hb0 : S.is tNot = false) (hb1 : S.is tMinus = false) :
    Calls Tryz.prog 72 #[.pointer (some ⟨r, 0, none⟩)] w fun e w' => Ret (suffixedP L S) r (vNode w.heap.size) e w' ∧ Ext r w w' := by
  obtain ⟨i0, hi, hz0, hz1, hz2⟩ := info_parts infoNode
  have hr0 := cx.jc.lt
  have HL := hide hL
  clear hL
  have HX0 : Hid (Ext r w w) := Ext.refl r w
  have hd0 := hD
  have HC0 := hide cx
  clear cx
  go_enter Tryz.func72, Tryz.ntmps72
  go_wp2_with fail
  refine (is_c (unhide HC0).rd tNot hb0).mono ?_
  rintro e wz ⟨rfl, rfl⟩
  go_wp2_with fail
  refine (is_c (unhide HC0).rd tMinus hb1).mono ?_
  rintro e wz ⟨rfl, rfl⟩
  go_wp2_with fail
  refine Ret.call (suffixed_any (unhide HC0) hd0 (unhide HL)) ?_ ?_
  · intro f wz hf hx
    exact ⟨rfl, Ret.inl (hf), (unhide HX0).trans hx⟩
  intro t9 S9 v w9 hf hv cx9 hx9
  obtain ⟨kb, rfl⟩ := vNode_ptr hv
  have HP9 := hide (hf)
  have HV9 := hide hv
  clear hf hv
  go_wp2_with fail
  go_ret
  exact ⟨Ret.inr (unhide HP9) (unhide HV9) cx9, (unhide HX0).trans hx9⟩

theorem prefixed_any {w : World} {r D : Nat} {S : LS} (cx : Cx w r S) (hD : S.dp = D) {L : Low} (hL : LowC r D L) :
    Calls Tryz.prog 72 #[.pointer (some ⟨r, 0, none⟩)] w fun e w' => Ret (prefixedP L S) r (vNode w.heap.size) e w' ∧ Ext r w w' := by
  cases hb0 : S.is tNot with
  | true =>
    rw [show prefixedP L S = (signedP L 41 S) by rw [prefixedP, if_pos hb0]]
    exact prefixed_any_0 cx hD hL hb0
  | false =>
    cases hb1 : S.is tMinus with
    | true =>
      rw [show prefixedP L S = (signedP L 40 S) by rw [prefixedP, if_neg (by rw [hb0]; decide), if_pos hb1]]
      exact prefixed_any_1 cx hD hL hb0 hb1
    | false =>
      rw [show prefixedP L S = (suffixedP L S) by rw [prefixedP, if_neg (by rw [hb0]; decide), if_neg (by rw [hb1]; decide)]]
      exact prefixed_any_2 cx hD hL hb0 hb1

end Go.Proofs.YtndgajlidckcdaaGreatDoor

namespace Go.Proofs.YtndgajlidckcdaaGreatDoor
open Go.RowKit
attribute [local go_sem ↓] Go.wp_at_zero Go.wp_at_succ

theorem Jc.cells {w : World} {r : Nat} (h : Jc w r) {l : Nat} (h1 : 1 ≤ l) (h6 : l ≤ 6) : w.cell? ⟨jbase r l + 2, 0, none⟩ = some (jpart r l) ∧ w.cell? ⟨jbase r l, 0, none⟩ = some (.pointer (some ⟨r, 0, none⟩)) ∧ w.cell? ⟨jbase r l + 1, 0, none⟩ = some (.int .i64 l) := by
  obtain ⟨t1, e1⟩ := h.pt l h1 h6
  obtain ⟨t2, e2⟩ := h.rr l h1 h6
  obtain ⟨t3, e3⟩ := h.lv l h1 h6
  exact ⟨hcell e1 0, hcell e2 0, hcell e3 0⟩

set_option maxRecDepth 100000 in
set_option maxHeartbeats 8000000 in
theorem joined_six {w : World} {r D : Nat} {S : LS} (cx : Cx w r S) (hD : S.dp = D) {l : Nat} (h1 : 1 ≤ l) (h6 : l ≤ 6) (P : LS → Res Tree) (hg : Good P) (hpv : jpart r l = .func (.func 72) #[.pointer (some ⟨r, 0, none⟩)] #[]) (hP : ∀ w S, Cx w r S → S.dp = D → Calls Tryz.prog 72 #[.pointer (some ⟨r, 0, none⟩)] w fun e w' => Ret (P S) r (vNode w.heap.size) e w' ∧ Ext r w w') :
    Calls Tryz.prog 112 #[.pointer (some ⟨jbase r l + 2, 0, none⟩), .pointer (some ⟨jbase r l, 0, none⟩), .pointer (some ⟨jbase r l + 1, 0, none⟩)] w fun e w' => Ret (joinP l P S) r (vNode w.heap.size) e w' ∧ Ext r w w' := by
  have hr0 := cx.jc.lt
  obtain ⟨c0, c1, c2⟩ := cx.jc.cells h1 h6
  rw [hpv] at c0
  have HG := hide hg
  have HP := hide hP
  have HC0 := hide cx
  clear hg hP cx
  go_enter Tryz.func112, Tryz.ntmps112
  go_wp2_with fail
  refine Ret.call (unhide HP _ _ (unhide HC0) hD) ?_ ?_
  · intro f wz hf hx
    exact ⟨rfl, Ret.inl (bnd_inl hf), hx⟩
  intro t1 S1 v w1 hf hv cx1 hx1
  obtain ⟨b1, rfl⟩ := vNode_ptr hv
  have hon1 := unhide HG _ _ _ (unhide HC0).ok hf
  have hd1 : S1.dp = D := hon1.same.dp.trans hD
  have HE1 : Hid (joinP l P S = joinLoop l P 3002 t1 S1) := bnd_inr hf
  have HN1 := hide hv
  have HX1 := hide hx1
  clear hf hv hx1 hon1 c0 c1 c2 HC0
  obtain ⟨c0, c1, c2⟩ := cx1.jc.cells h1 h6
  rw [hpv] at c0
  have HC1 := hide cx1
  clear cx1
  go_wp2_with fail
  refine (joiner_any (unhide HC1) l).mono ?_
  rintro e w2 ⟨rfl, cx2, ha2⟩
  have HN2 := hide (NodeAt.keep (fun _ h => h) (fun j _ hl => ha2.block j hl) _ _ (unhide HN1))
  have HX2 := hide ((unhide HX1).trans (ha2.ext r))
  clear ha2 HN1 HX1 HC1 c0 c1 c2
  go_wp2_with fail
  go_loopg [4, 5] 3002 (fun gg n k wr => ∃ (S' : LS) (b : Nat) (t : Tree), n = .pointer (some ⟨b, 0, none⟩) ∧ k = .int .i64 (joinerP l S') ∧ Cx wr r S' ∧ S'.dp = D ∧ Hid (NodeAt (fun j => w.heap.size ≤ j) wr (.pointer (some ⟨b, 0, none⟩)) t) ∧ Hid (Ext r w wr) ∧ 3002 ≤ gg + S'.tp ∧ Hid (joinLoop l P gg t S' = joinP l P S))
  case atStart => exact ⟨S1, b1, t1, rfl, rfl, cx2, hd1, unhide HN2, unhide HX2, by omega, (unhide HE1).symm⟩
  case round =>
    clear cx2 hd1 HN2 HX2 HE1
    obtain ⟨S', b, t, rfl, rfl, cx, hdp, HN, HX, hgg, HE⟩ := hrel
    have htp : S'.tp ≤ 3000 := Nat.le_trans cx.ok.tp (Nat.le_trans cx.ok.fit.pl cx.ok.fit.size)
    obtain ⟨f, hgf⟩ : ∃ f, gk = f + 1 := ⟨gk - 1, by omega⟩
    subst hgf
    by_cases hz : joinerP l S' = 0
    · have HE1 : Hid (Sum.inr (t, S') = joinP l P S) := by
        have := unhide HE
        rw [joinLoop, if_pos hz] at this
        exact this
      have b0 : ((joinerP l S' : Int) != 0) = false := by rw [bne_eq_false_iff_eq]; omega
      clear hz HE
      go_wp2_with fail
      go_ret
      exact ⟨Ret.inr (unhide HE1).symm (unhide HN) cx, unhide HX⟩
    · have HE1 : Hid ((bnd (takeP S') fun _ S1 => bnd (P S1) fun u S2 => joinLoop l P f (around (joinerP l S') t [u]) S2) = joinP l P S) := by
        have := unhide HE
        rw [joinLoop, if_neg hz] at this
        exact this
      have HK := hide (joiner_kd hz)
      have b0 : ((joinerP l S' : Int) != 0) = true := by rw [bne_iff_ne]; omega
      obtain ⟨c0, c1, c2⟩ := cx.jc.cells h1 h6
      rw [hpv] at c0
      have HC := hide cx
      clear hz HE cx
      go_wp2_with fail
      refine Ret.call (take_any (unhide HC)) ?_ ?_
      · intro fl wz hf hx
        exact ⟨rfl, Ret.inl ((unhide HE1).symm.trans (bnd_inl hf)), (unhide HX).trans hx⟩
      intro a3 S3 v w3 hf hv cx3 hx
      obtain rfl : v = S'.tok := hv
      have hon3 := take_on (unhide HC).ok (unhide HK) hf
      have hd3 : S3.dp = D := hon3.same.dp.trans hdp
      have htp3 := hon3.tp
      have HE3 := hide ((bnd_inr hf).symm.trans (unhide HE1))
      have HN3 := hide (NodeAt.ext (unhide HN) hx fun j hj => by omega)
      have HX3 := hide ((unhide HX).trans hx)
      clear hf hx hon3 HE1 HN HX HC HK c0 c1 c2 hdp
      obtain ⟨c0, c1, c2⟩ := cx3.jc.cells h1 h6
      rw [hpv] at c0
      have HC3 := hide cx3
      clear cx3
      go_wp2_with fail
      refine Ret.call (unhide HP _ _ (unhide HC3) hd3) ?_ ?_
      · intro fl wz hf hx
        exact ⟨rfl, Ret.inl ((unhide HE3).symm.trans (bnd_inl hf)), (unhide HX3).trans hx⟩
      intro u4 S4 v w4 hf hv cx4 hx
      obtain ⟨b4, rfl⟩ := vNode_ptr hv
      have hon4 := unhide HG _ _ _ (unhide HC3).ok hf
      have hd4 : S4.dp = D := hon4.same.dp.trans hd3
      have htp4 := hon4.tp
      have HE4 := hide ((bnd_inr hf).symm.trans (unhide HE3))
      have HN4 := hide (NodeAt.ext (unhide HN3) hx fun j hj => by omega)
      have hsz3 := (unhide HX3).size
      have HM4 := hide (NodeAt.mono (A' := fun j => w.heap.size ≤ j) hv fun j hj => by omega)
      have HX4 := hide ((unhide HX3).trans hx)
      have HC4 := hide cx4
      clear hf hv hx cx4 hon4 HE3 HN3 HX3 HC3 hsz3 c0 c1 c2
      go_wp2_with fail
      have ha7 : Add w4 (w4.alloc (.cells #[.pointer (some ⟨b4, 0, none⟩)] 22)) := (Add.refl w4).alloc _
      refine (around_two (k := joinerP l S') ((unhide HX4).alloc _).size ((unhide HN4).keep (fun _ h => h) (fun j _ hl => ha7.block j hl) _ _) ((unhide HM4).keep (fun _ h => h) (fun j _ hl => ha7.block j hl) _ _) (hnew _ _)).mono ?_
      rintro e w8 ⟨n8, ks8, rfl, hn8, hu8, ha8⟩
      have hq8 := ha7.trans ha8
      have HN8 := hide hu8.node
      have HX8 := hide ((unhide HX4).trans (hq8.ext r))
      have cx8 := (unhide HC4).add hq8
      clear hu8 ha8 ha7 hq8 hn8 HN4 HM4 HX4 HC4
      obtain ⟨c0, c1, c2⟩ := cx8.jc.cells h1 h6
      have HC8 := hide cx8
      clear cx8
      go_wp2_with fail
      refine (joiner_any (unhide HC8) l).mono ?_
      rintro e w9 ⟨rfl, cx9, ha9⟩
      have HN9 := hide (NodeAt.keep (fun _ h => h) (fun j _ hl => ha9.block j hl) _ _ (unhide HN8))
      have HX9 := hide ((unhide HX8).trans (ha9.ext r))
      clear ha9 HN8 HX8 HC8 c0 c1 c2
      go_wp2_with fail
      go_roundg f
      case measure => omega
      case rel => exact ⟨S4, n8, _, rfl, rfl, cx9, hd4, unhide HN9, unhide HX9, by omega, unhide HE4⟩

set_option maxRecDepth 100000 in
set_option maxHeartbeats 8000000 in
theorem joined_less {w : World} {r D : Nat} {S : LS} (cx : Cx w r S) (hD : S.dp = D) {l : Nat} (h1 : 1 ≤ l) (h6 : l ≤ 6) (P : LS → Res Tree) (hg : Good P) (hpv : jpart r l = .func (.func 112) #[] #[.pointer (some ⟨jbase r (l + 1) + 2, 0, none⟩), .pointer (some ⟨jbase r (l + 1), 0, none⟩), .pointer (some ⟨jbase r (l + 1) + 1, 0, none⟩)]) (hP : ∀ w S, Cx w r S → S.dp = D → Calls Tryz.prog 112 #[.pointer (some ⟨jbase r (l + 1) + 2, 0, none⟩), .pointer (some ⟨jbase r (l + 1), 0, none⟩), .pointer (some ⟨jbase r (l + 1) + 1, 0, none⟩)] w fun e w' => Ret (P S) r (vNode w.heap.size) e w' ∧ Ext r w w') :
    Calls Tryz.prog 112 #[.pointer (some ⟨jbase r l + 2, 0, none⟩), .pointer (some ⟨jbase r l, 0, none⟩), .pointer (some ⟨jbase r l + 1, 0, none⟩)] w fun e w' => Ret (joinP l P S) r (vNode w.heap.size) e w' ∧ Ext r w w' := by
  have hr0 := cx.jc.lt
  obtain ⟨c0, c1, c2⟩ := cx.jc.cells h1 h6
  rw [hpv] at c0
  have HG := hide hg
  have HP := hide hP
  have HC0 := hide cx
  clear hg hP cx
  go_enter Tryz.func112, Tryz.ntmps112
  go_wp2_with fail
  refine Ret.call (unhide HP _ _ (unhide HC0) hD) ?_ ?_
  · intro f wz hf hx
    exact ⟨rfl, Ret.inl (bnd_inl hf), hx⟩
  intro t1 S1 v w1 hf hv cx1 hx1
  obtain ⟨b1, rfl⟩ := vNode_ptr hv
  have hon1 := unhide HG _ _ _ (unhide HC0).ok hf
  have hd1 : S1.dp = D := hon1.same.dp.trans hD
  have HE1 : Hid (joinP l P S = joinLoop l P 3002 t1 S1) := bnd_inr hf
  have HN1 := hide hv
  have HX1 := hide hx1
  clear hf hv hx1 hon1 c0 c1 c2 HC0
  obtain ⟨c0, c1, c2⟩ := cx1.jc.cells h1 h6
  rw [hpv] at c0
  have HC1 := hide cx1
  clear cx1
  go_wp2_with fail
  refine (joiner_any (unhide HC1) l).mono ?_
  rintro e w2 ⟨rfl, cx2, ha2⟩
  have HN2 := hide (NodeAt.keep (fun _ h => h) (fun j _ hl => ha2.block j hl) _ _ (unhide HN1))
  have HX2 := hide ((unhide HX1).trans (ha2.ext r))
  clear ha2 HN1 HX1 HC1 c0 c1 c2
  go_wp2_with fail
  go_loopg [4, 5] 3002 (fun gg n k wr => ∃ (S' : LS) (b : Nat) (t : Tree), n = .pointer (some ⟨b, 0, none⟩) ∧ k = .int .i64 (joinerP l S') ∧ Cx wr r S' ∧ S'.dp = D ∧ Hid (NodeAt (fun j => w.heap.size ≤ j) wr (.pointer (some ⟨b, 0, none⟩)) t) ∧ Hid (Ext r w wr) ∧ 3002 ≤ gg + S'.tp ∧ Hid (joinLoop l P gg t S' = joinP l P S))
  case atStart => exact ⟨S1, b1, t1, rfl, rfl, cx2, hd1, unhide HN2, unhide HX2, by omega, (unhide HE1).symm⟩
  case round =>
    clear cx2 hd1 HN2 HX2 HE1
    obtain ⟨S', b, t, rfl, rfl, cx, hdp, HN, HX, hgg, HE⟩ := hrel
    have htp : S'.tp ≤ 3000 := Nat.le_trans cx.ok.tp (Nat.le_trans cx.ok.fit.pl cx.ok.fit.size)
    obtain ⟨f, hgf⟩ : ∃ f, gk = f + 1 := ⟨gk - 1, by omega⟩
    subst hgf
    by_cases hz : joinerP l S' = 0
    · have HE1 : Hid (Sum.inr (t, S') = joinP l P S) := by
        have := unhide HE
        rw [joinLoop, if_pos hz] at this
        exact this
      have b0 : ((joinerP l S' : Int) != 0) = false := by rw [bne_eq_false_iff_eq]; omega
      clear hz HE
      go_wp2_with fail
      go_ret
      exact ⟨Ret.inr (unhide HE1).symm (unhide HN) cx, unhide HX⟩
    · have HE1 : Hid ((bnd (takeP S') fun _ S1 => bnd (P S1) fun u S2 => joinLoop l P f (around (joinerP l S') t [u]) S2) = joinP l P S) := by
        have := unhide HE
        rw [joinLoop, if_neg hz] at this
        exact this
      have HK := hide (joiner_kd hz)
      have b0 : ((joinerP l S' : Int) != 0) = true := by rw [bne_iff_ne]; omega
      obtain ⟨c0, c1, c2⟩ := cx.jc.cells h1 h6
      rw [hpv] at c0
      have HC := hide cx
      clear hz HE cx
      go_wp2_with fail
      refine Ret.call (take_any (unhide HC)) ?_ ?_
      · intro fl wz hf hx
        exact ⟨rfl, Ret.inl ((unhide HE1).symm.trans (bnd_inl hf)), (unhide HX).trans hx⟩
      intro a3 S3 v w3 hf hv cx3 hx
      obtain rfl : v = S'.tok := hv
      have hon3 := take_on (unhide HC).ok (unhide HK) hf
      have hd3 : S3.dp = D := hon3.same.dp.trans hdp
      have htp3 := hon3.tp
      have HE3 := hide ((bnd_inr hf).symm.trans (unhide HE1))
      have HN3 := hide (NodeAt.ext (unhide HN) hx fun j hj => by omega)
      have HX3 := hide ((unhide HX).trans hx)
      clear hf hx hon3 HE1 HN HX HC HK c0 c1 c2 hdp
      obtain ⟨c0, c1, c2⟩ := cx3.jc.cells h1 h6
      rw [hpv] at c0
      have HC3 := hide cx3
      clear cx3
      go_wp2_with fail
      refine Ret.call (unhide HP _ _ (unhide HC3) hd3) ?_ ?_
      · intro fl wz hf hx
        exact ⟨rfl, Ret.inl ((unhide HE3).symm.trans (bnd_inl hf)), (unhide HX3).trans hx⟩
      intro u4 S4 v w4 hf hv cx4 hx
      obtain ⟨b4, rfl⟩ := vNode_ptr hv
      have hon4 := unhide HG _ _ _ (unhide HC3).ok hf
      have hd4 : S4.dp = D := hon4.same.dp.trans hd3
      have htp4 := hon4.tp
      have HE4 := hide ((bnd_inr hf).symm.trans (unhide HE3))
      have HN4 := hide (NodeAt.ext (unhide HN3) hx fun j hj => by omega)
      have hsz3 := (unhide HX3).size
      have HM4 := hide (NodeAt.mono (A' := fun j => w.heap.size ≤ j) hv fun j hj => by omega)
      have HX4 := hide ((unhide HX3).trans hx)
      have HC4 := hide cx4
      clear hf hv hx cx4 hon4 HE3 HN3 HX3 HC3 hsz3 c0 c1 c2
      go_wp2_with fail
      have ha7 : Add w4 (w4.alloc (.cells #[.pointer (some ⟨b4, 0, none⟩)] 22)) := (Add.refl w4).alloc _
      refine (around_two (k := joinerP l S') ((unhide HX4).alloc _).size ((unhide HN4).keep (fun _ h => h) (fun j _ hl => ha7.block j hl) _ _) ((unhide HM4).keep (fun _ h => h) (fun j _ hl => ha7.block j hl) _ _) (hnew _ _)).mono ?_
      rintro e w8 ⟨n8, ks8, rfl, hn8, hu8, ha8⟩
      have hq8 := ha7.trans ha8
      have HN8 := hide hu8.node
      have HX8 := hide ((unhide HX4).trans (hq8.ext r))
      have cx8 := (unhide HC4).add hq8
      clear hu8 ha8 ha7 hq8 hn8 HN4 HM4 HX4 HC4
      obtain ⟨c0, c1, c2⟩ := cx8.jc.cells h1 h6
      have HC8 := hide cx8
      clear cx8
      go_wp2_with fail
      refine (joiner_any (unhide HC8) l).mono ?_
      rintro e w9 ⟨rfl, cx9, ha9⟩
      have HN9 := hide (NodeAt.keep (fun _ h => h) (fun j _ hl => ha9.block j hl) _ _ (unhide HN8))
      have HX9 := hide ((unhide HX8).trans (ha9.ext r))
      clear ha9 HN8 HX8 HC8 c0 c1 c2
      go_wp2_with fail
      go_roundg f
      case measure => omega
      case rel => exact ⟨S4, n8, _, rfl, rfl, cx9, hd4, unhide HN9, unhide HX9, by omega, unhide HE4⟩

/-- The readers of the six strengths, the n strongest ones. -/
theorem joined_any {r D : Nat} {L : Low} (hL : LowC r D L) : ∀ n : Nat, n < 6 → ∀ (w : World) (S : LS), Cx w r S → S.dp = D → Calls Tryz.prog 112 #[.pointer (some ⟨jbase r (6 - n) + 2, 0, none⟩), .pointer (some ⟨jbase r (6 - n), 0, none⟩), .pointer (some ⟨jbase r (6 - n) + 1, 0, none⟩)] w fun e w' =>
    Ret (jo (prefixedP L) (n + 1) S) r (vNode w.heap.size) e w' ∧ Ext r w w'
  | 0, _, _, _, cx, hd => joined_six cx hd (by omega) (by omega) (prefixedP L) (prefixedP_good hL.good) (by rw [jpart, if_pos rfl]) fun _ _ cx hd => prefixed_any cx hd hL
  | n + 1, h, _, _, cx, hd => joined_less cx hd (by omega) (by omega) (jo (prefixedP L) (n + 1)) (jo_good (prefixedP_good hL.good) (n + 1)) (by rw [jpart, if_neg (by omega)]; rfl) fun w S cx hd => by
      have := joined_any hL n (by omega) w S cx hd
      rw [show 6 - (n + 1) + 1 = 6 - n by omega]
      exact this
end Go.Proofs.YtndgajlidckcdaaGreatDoor
