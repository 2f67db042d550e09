/-
  Parameters, blocks, functions.
  Blocks and functions.
  Functions.
  Methods, functions, fields; variables.
  Fields, variables, what is returned, parentheses.
-/
import Derived.Test.YtjcoobkpmpjpbaaGreatDoorM08
import Derived.Deep.DeepCutAuto
namespace Go.Proofs.YtjcoobkpmpjpbaaGreatDoor
open Go.RowKit
attribute [local go_sem ↓] Go.wp_at_zero Go.wp_at_succ

/-- What reads a value, a statement, a part behind - or !, at one depth. -/
structure LowC (r D : Nat) (L : Low) : Prop where
  good : LowGood L
  v : ∀ w S, Cx w r S → S.dp = D → Calls Tryz.prog 77 #[.pointer (some ⟨r, 0, none⟩)] w fun e w' => Ret (L.V S) r (vNode w.heap.size) e w' ∧ Ext r w w'
  s : ∀ w S, Cx w r S → S.dp = D → Calls Tryz.prog 65 #[.pointer (some ⟨r, 0, none⟩)] w fun e w' => Ret (L.S S) r (vNode w.heap.size) e w' ∧ Ext r w w'
  n : ∀ w S, Cx w r S → S.dp = D → Calls Tryz.prog 51 #[.pointer (some ⟨r, 0, none⟩), .func (.func 31) #[.pointer (some ⟨r, 0, none⟩)] #[]] w fun e w' => Ret (L.N S) r (vNode w.heap.size) e w' ∧ Ext r w w'

theorem vNew_node {lo k : Nat} {tx un : ByteArray} {n : Int} {ln : Nat} {v : Value} {w : World} (h : vNew lo k tx un n ln v w) : vNode lo ⟨k, tx, un, n, ln, []⟩ v w := by
  obtain ⟨rfl, h⟩ := h
  exact h.node

set_option maxRecDepth 100000 in
set_option maxHeartbeats 1000000 in
theorem param_any {w : World} {r : Nat} {S : LS} (cx : Cx w r S) :
    Calls Tryz.prog 126 #[.pointer (some ⟨r, 0, none⟩)] w fun e w' => Ret (paramP S) r (vNode w.heap.size) e w' ∧ Ext r w w' := by
  have hrj := cx.jc.lt
  go_enter Tryz.func126, Tryz.ntmps126
  go_wp2_with fail
  refine (start_calls cx 24).mono ?_
  rintro e w1 ⟨v, rfl, ⟨rfl, hu⟩, cx1, hx1⟩
  clear cx
  go_wp2_with fail
  refine Ret.call (name_any cx1) ?_ ?_
  · intro f w2 hf hx
    exact ⟨rfl, Ret.inl (bnd_inl hf), hx1.trans hx⟩
  · intro s S1 v w2 hf hv cx2 hx
    obtain rfl : v = .string s := hv
    have hu2 := hu.ext hx fun j hj => by omega
    obtain ⟨t0, hb⟩ := hu2.cells
    have d1 : w2.cell? ⟨w.heap.size, 1, none⟩ = some (.string noText) := hcell hb 1
    have g1 := hfroz hb 1
    have HP : Hid (paramP S = .inr (⟨24, s, noText, 0, S.tl, []⟩, S1)) := bnd_inr hf
    have HU := hide hu2
    have HX := hide (hx1.trans hx)
    clear hf hu hu2 hb hx hx1 cx1
    go_wp2_with fail
    go_ret
    refine ⟨Ret.inr (unhide HP) ?_ (cx2.setCell hrj _ _), (unhide HX).setNew _ (Nat.le_refl _) _⟩
    exact ((unhide HU).put 1 (.string s) (tx' := s) rfl).node

theorem param_part (r D : Nat) : Part r D 126 #[.pointer (some ⟨r, 0, none⟩)] paramP :=
  ⟨fun _ => by kernel_rfl, paramP_good, fun _ _ cx _ => param_any cx⟩
theorem value_part {r D : Nat} {L : Low} (hL : LowC r D L) : Part r D 77 #[.pointer (some ⟨r, 0, none⟩)] L.V :=
  ⟨fun _ => by kernel_rfl, hL.good.v, hL.v⟩

set_option maxRecDepth 100000 in
set_option maxHeartbeats 1000000 in
theorem params_any {w : World} {r : Nat} {S : LS} (cx : Cx w r S) :
    Calls Tryz.prog 106 #[.pointer (some ⟨r, 0, none⟩)] w fun e w' => Ret (paramsP S) r (vNode w.heap.size) e w' ∧ Ext r w w' := by
  have hrj := cx.jc.lt
  go_enter Tryz.func106, Tryz.ntmps106
  go_wp2_with fail
  refine (start_calls cx 6).mono ?_
  rintro e w1 ⟨v, rfl, ⟨rfl, hu⟩, cx1, hx1⟩
  clear cx
  go_wp2_with fail
  refine Ret.call (want_any cx1 tOpen) ?_ ?_
  · intro f w2 hf hx
    exact ⟨rfl, Ret.inl (bnd_inl hf), hx1.trans hx⟩
  intro a S1 v w2 hf hv cx2 hx2
  obtain rfl : v = .tuple #[] := hv
  have HP1 : Hid (paramsP S = bnd (listedP tShut paramP S1) fun ks S2 => .inr (⟨6, noText, noText, 0, S.tl, ks⟩, S2)) := bnd_inr hf
  have hu2 := hu.ext hx2 fun j hj => by omega
  have hlt : w.heap.size < w2.heap.size := by
    obtain ⟨t0, hb⟩ := hu2.cells
    exact (Array.getElem?_eq_some_iff.1 hb).1
  have HU := hide hu2
  have HX := hide (hx1.trans hx2)
  clear hf hu hx1 hx2 cx1 hu2
  go_wp2_with fail
  refine Ret.call (listed_any cx2 rfl tShut 126 _ paramP (param_part r _)) ?_ ?_
  · intro f w3 hf hx
    exact ⟨rfl, Ret.inl ((unhide HP1).trans (bnd_inl hf)), (unhide HX).trans hx⟩
  intro ks S2 v w3 hf hv cx3 hx3
  obtain ⟨vs, hl, -⟩ := hv
  have HP2 : Hid (paramsP S = .inr (⟨6, noText, noText, 0, S.tl, ks⟩, S2)) := (unhide HP1).trans (bnd_inr hf)
  have hu3 := (unhide HU).ext hx3 fun j hj => by omega
  obtain ⟨t0, hb⟩ := hu3.cells
  have d5 : w3.cell? ⟨w.heap.size, 5, none⟩ = some (.slice none 0 0) := hcell hb 5
  have g5 := hfroz hb 5
  obtain ⟨la, lcap, rfl⟩ := hl.form
  have HU3 := hide (hu3.setKids hl hlt)
  have HX3 := hide ((unhide HX).trans hx3)
  clear hf hu3 hl hb hx3 HX HU cx2 HP1
  go_wp2_with fail
  go_ret
  exact ⟨Ret.inr (unhide HP2) (unhide HU3).node (cx3.setCell hrj _ _), (unhide HX3).setNew _ (Nat.le_refl _) _⟩

end Go.Proofs.YtjcoobkpmpjpbaaGreatDoor

namespace Go.Proofs.YtjcoobkpmpjpbaaGreatDoor
open Go.RowKit
attribute [local go_sem ↓] Go.wp_at_zero Go.wp_at_succ

theorem ent_stmt (r : Nat) : ∀ w : World, Sem.run Tryz.prog (callFunc 65 #[.pointer (some ⟨r, 0, none⟩)]) w = .ok (.enter 65 #[.pointer (some ⟨r, 0, none⟩)]) w := fun _ => by kernel_rfl

set_option maxRecDepth 100000 in
set_option maxHeartbeats 8000000 in
theorem block_any {w : World} {r D : Nat} {S : LS} (cx : Cx w r S) (hD : S.dp = D) {L : Low} (hL : LowC r D L) :
    Calls Tryz.prog 107 #[.pointer (some ⟨r, 0, none⟩)] w fun e w' => Ret (blockP L S) r (vNode w.heap.size) e w' ∧ Ext r w w' := by
  obtain ⟨i0, hi, hz0, hz1, hz2⟩ := info_parts infoNode
  have hr0 := cx.jc.lt
  have hent := ent_stmt r
  have HLC := hide hL
  clear hL
  go_enter Tryz.func107, Tryz.ntmps107
  go_wp2_with fail
  refine (start_calls cx 7).mono ?_
  rintro e w1 ⟨v, rfl, ⟨rfl, hu⟩, cx1, hx1⟩
  clear cx
  go_wp2_with fail
  refine Ret.call (want_any cx1 tLeft) ?_ ?_
  · intro f w2 hf hx
    exact ⟨rfl, Ret.inl (bnd_inl hf), hx1.trans hx⟩
  intro a S1 v w2 hf hv cx2 hx2
  obtain rfl : v = .tuple #[] := hv
  have HP1 : Hid (blockP L S = bnd (untilP tRight L.S 3002 [] S1) fun ks S2 => .inr (⟨7, noText, noText, 0, S.tl, ks⟩, S2)) := bnd_inr hf
  have hon := want_on cx1.ok hf
  have hd1 : S1.dp = D := hon.same.dp.trans hD
  have HU2 := hide (hu.ext hx2 fun j hj => by omega)
  have HX2 := hide (hx1.trans hx2)
  clear hf hu hx1 hx2 cx1 hon
  go_wp2_with fail
  go_loopg [] 3002 (fun gg wr => ∃ (S' : LS) (acc : List Tree) (ks : Value) (vs : List Value), Cx wr r S' ∧ S'.dp = D ∧ Hid (Und (fun j => w.heap.size ≤ j) wr w.heap.size 7 noText noText 0 S.tl acc ks vs) ∧ Hid (Ext r w wr) ∧ 3002 ≤ gg + S'.tp ∧ acc.length ≤ S'.tp ∧
    Hid ((bnd (untilP tRight L.S gg acc S') fun ks S2 => .inr (⟨7, noText, noText, 0, S.tl, ks⟩, S2)) = blockP L S))
  case atStart => exact ⟨S1, [], _, _, cx2, hd1, unhide HU2, unhide HX2, by omega, by simp, (unhide HP1).symm⟩
  case round =>
    clear cx2 hd1 HU2 HX2 HP1
    obtain ⟨S', acc, ks, vs, cx, hdp, HU, HX0, hgg, hacc, HE⟩ := hrel
    have htp : S'.tp ≤ 3000 := Nat.le_trans cx.ok.tp (Nat.le_trans cx.ok.fit.pl cx.ok.fit.size)
    obtain ⟨f, hgf⟩ : ∃ f, gk = f + 1 := ⟨gk - 1, by omega⟩
    subst hgf
    have HE1 : Hid ((bnd (bnd (acceptP tRight S') fun b S1 => if b = true then .inr (acc, S1) else bnd (L.S S1) fun t S2 => untilP tRight L.S f (acc ++ [t]) S2) fun ks S2 => .inr (⟨7, noText, noText, 0, S.tl, ks⟩, S2)) = blockP L S) := unhide HE
    clear HE
    go_wp2_with fail
    refine Ret.call (accept_any cx tRight) ?_ ?_
    · intro fl w3 hf hx
      exact ⟨rfl, Ret.inl ((unhide HE1).symm.trans (bnd_inl (bnd_inl hf))), (unhide HX0).trans hx⟩
    intro b S3 v w3 hf hv cx3 hx3
    obtain rfl : v = .bool b := hv
    have hon := accept_on cx.ok hf
    have HU3 := hide ((unhide HU).ext hx3 fun j hj => by omega)
    have HX3 := hide ((unhide HX0).trans hx3)
    have HE3 := hide ((congrArg (fun z => bnd z fun ks S2 => (.inr (⟨7, noText, noText, 0, S.tl, ks⟩, S2) : Res Tree)) (bnd_inr hf)).symm.trans (unhide HE1))
    clear hf HU HX0 HE1 hx3 cx
    cases b with
    | true =>
      clear hon
      go_wp2_with fail
      go_ret
      exact ⟨Ret.inr (unhide HE3).symm (unhide HU3).node cx3, unhide HX3⟩
    | false =>
      obtain rfl := hon.2.2 rfl
      clear hon
      have hvs : vs.length ≤ 3000 := by rw [(unhide HU3).len]; omega
      obtain ⟨t0, hb⟩ := (unhide HU3).cells
      have d5 : w3.cell? ⟨w.heap.size, 5, none⟩ = some ks := hcell hb 5
      have g5 := hfroz hb 5
      have HU := HU3
      have HX0 := HX3
      have HC := hide cx3
      have HE := HE3
      clear HU3 HX3 cx3 HE3 hb
      go_wp2_with fail
      go_region_law ((first | (refine step_append_lies _ (by rfl) _ _ _ (by rfl) 0 22 i0 (.pointer none) 1 8 Tryz.underlying37 hi hz0 hz1 hz2 rfl (by decide) ks vs.length vs (by rfl) ((unhide HO2).alloc _) ⟨w2.heap.size, 0, none⟩ 1 1 [.pointer (some ⟨kb, 0, none⟩)] (by rfl) rfl (cell_one_new _ _ _) (fun u hu => by simp at hu; subst hu; rfl) (by decide) (by unfold maxLen; omega) (by omega) (Nat.zero_le _) (w2.heap.size + 1) (by simp) ?_; intro g cap w3 hown hgrow hat hlt; obtain ⟨e6, f6, HU3, HX3, HC3⟩ := kid_more rfl (unhide HU).drew (unhide HU2) hr0 (unhide HC2) (unhide HX2) (unhide HV2) _ hown hgrow hat; clear hown hgrow hat hlt) | (refine step_call rfl (by simp [Act.eval, hent, go_sem]) (Ret.call ((unhide HLC).s _ _ (unhide HC).drew hdp) (fun f w2 hf hx => ⟨rfl, Ret.inl ((unhide HE).symm.trans (bnd_inl (bnd_inl hf))), ((unhide HX0).drew).trans hx⟩) ?_); intro t S1 v w2 hf hv cx1 hx; obtain ⟨kb, rfl⟩ := vNode_ptr hv; obtain ⟨e5, e5a, HO2, HU2⟩ := kid_call (unhide HU).drew hx (by omega); have HV2 := hide hv; have HC2 := hide cx1; have HX2 := hide (((unhide HX0).drew).trans hx); have HF := hide hf; clear hv cx1 hx hf)))
      all_goals
        have cx4 := unhide HC3
        have hon4 := (unhide HLC).good.s _ _ _ (unhide HC).ok (unhide HF)
        have htp4 := hon4.tp
        have hd4 := hon4.same.dp.trans hdp
        have HE4 := hide ((congrArg (fun z => bnd z fun ks S2 => (.inr (⟨7, noText, noText, 0, S.tl, ks⟩, S2) : Res Tree)) (bnd_inr (unhide HF))).symm.trans (unhide HE))
        clear d5 g5 hon4 HF HE HU HX0 HC e5 e5a e6 f6
        go_wp2_with fail
        go_roundg f
        case measure => omega
        case rel => exact ⟨_, acc ++ [t], _, _, cx4, hd4, unhide HU3, unhide HX3, by omega, by simp; omega, unhide HE4⟩
end Go.Proofs.YtjcoobkpmpjpbaaGreatDoor

namespace Go.Proofs.YtjcoobkpmpjpbaaGreatDoor
open Go.RowKit
attribute [local go_sem ↓] Go.wp_at_zero Go.wp_at_succ

theorem ent_params (r : Nat) : ∀ w : World, Sem.run Tryz.prog (callFunc 106 #[.pointer (some ⟨r, 0, none⟩)]) w = .ok (.enter 106 #[.pointer (some ⟨r, 0, none⟩)]) w := fun _ => by kernel_rfl
theorem ent_block (r : Nat) : ∀ w : World, Sem.run Tryz.prog (callFunc 107 #[.pointer (some ⟨r, 0, none⟩)]) w = .ok (.enter 107 #[.pointer (some ⟨r, 0, none⟩)]) w := fun _ => by kernel_rfl

set_option maxRecDepth 100000 in
set_option maxHeartbeats 8000000 in
theorem function_any {w0 w : World} {r D : Nat} {S : LS} (cx : Cx w r S) (hD : S.dp = D) {L : Low} (hL : LowC r D L) (hx0 : Ext r w0 w) (hr0 : r + 18 < w0.heap.size) {b k : Nat} {tx un : ByteArray} {n : Int} {ln : Nat} {ts : List Tree} {ks : Value} {vs : List Value} (hu : Und (fun j => w0.heap.size ≤ j) w b k tx un n ln ts ks vs) (hts : ts.length ≤ 5000) :
    Calls Tryz.prog 92 #[.pointer (some ⟨r, 0, none⟩), .pointer (some ⟨b, 0, none⟩)] w fun e w' => Ret (bodyP L S) r (fun pb => vKid w0.heap.size b k tx un n ln (ts ++ [pb.1] ++ [pb.2])) e w' ∧ Ext r w0 w' := by
  obtain ⟨i0, hi, hz0, hz1, hz2⟩ := info_parts infoNode
  obtain ⟨t0, hb⟩ := hu.cells
  have d5 : w.cell? ⟨b, 5, none⟩ = some ks := hcell hb 5
  have g5 := hfroz hb 5
  have hvs : vs.length ≤ 5000 := by rw [hu.len]; exact hts
  have hent := ent_params r
  have HU := hide hu
  have HL := hide hL
  have HC := hide cx
  have HX0 := hide hx0
  clear hu hL cx hx0 hb
  go_enter Tryz.func92, Tryz.ntmps92
  go_wp2_with fail
  go_cut [] (fun wc => ∃ (t : Tree) (S4 : LS) (ks' : Value) (vs' : List Value), Hid (paramsP S = .inr (t, S4)) ∧ Cx wc r S4 ∧ Hid (Und (fun j => w0.heap.size ≤ j) wc b k tx un n ln (ts ++ [t]) ks' vs') ∧ Hid (Ext r w0 wc))
  case first =>
    go_region_law ((first | (refine step_append_lies _ (by rfl) _ _ _ (by rfl) 0 22 i0 (.pointer none) 1 8 Tryz.underlying37 hi hz0 hz1 hz2 rfl (by decide) ks vs.length vs (by rfl) ((unhide HO2).alloc _) ⟨w2.heap.size, 0, none⟩ 1 1 [.pointer (some ⟨kb, 0, none⟩)] (by rfl) rfl (cell_one_new _ _ _) (fun u hu => by simp at hu; subst hu; rfl) (by decide) (by unfold maxLen; omega) (by omega) (Nat.zero_le _) (w2.heap.size + 1) (by simp) ?_; intro g cap w3 hown hgrow hat hlt; obtain ⟨e6, f6, HU3, HX3, HC3⟩ := kid_more rfl (unhide HU).drew (unhide HU2) hr0 (unhide HC2) (unhide HX2) (unhide HV2) _ hown hgrow hat; clear hown hgrow hat hlt) | (refine step_call rfl (by simp [Act.eval, hent, go_sem]) (Ret.call (params_any (unhide HC).drew) (fun f w2 hf hx => ⟨rfl, Ret.inl (bnd_inl hf), ((unhide HX0).drew).trans hx⟩) ?_); intro t S1 v w2 hf hv cx1 hx; obtain ⟨kb, rfl⟩ := vNode_ptr hv; obtain ⟨e5, e5a, HO2, HU2⟩ := kid_call (unhide HU).drew hx (by omega); have HV2 := hide hv; have HC2 := hide cx1; have HX2 := hide (((unhide HX0).drew).trans hx); have HF := hide hf; clear hv cx1 hx hf)))
    all_goals
      go_wp2_with fail
      go_meet
      exact ⟨t, _, _, _, unhide HF, unhide HC3, unhide HU3, unhide HX3⟩
  case rest =>
    obtain ⟨t1, S4, ks', vs', HF1, cx4, HU4, HX4⟩ := hcut
    have hon := paramsP_good _ _ _ (unhide HC).ok (unhide HF1)
    have hd4 : S4.dp = D := hon.same.dp.trans hD
    have HP1 : Hid (bodyP L S = bnd (blockP L S4) fun b S2 => .inr ((t1, b), S2)) := bnd_inr (unhide HF1)
    have hvs' : vs'.length ≤ 5001 := by rw [(unhide HU4).len]; simp; omega
    clear d5 g5 hent HU HX0 HC HF1 hon hvs
    obtain ⟨t0, hb⟩ := (unhide HU4).cells
    have d5 : wc.cell? ⟨b, 5, none⟩ = some ks' := hcell hb 5
    have g5 := hfroz hb 5
    have hent := ent_block r
    have HU := HU4
    have HX0 := HX4
    have HC := hide cx4
    clear hb HU4 HX4 cx4
    go_wp2_with fail
    go_cut [] (fun wc => ∃ (t : Tree) (S5 : LS) (ks'' : Value) (vs'' : List Value), Hid (blockP L S4 = .inr (t, S5)) ∧ Cx wc r S5 ∧ Hid (Und (fun j => w0.heap.size ≤ j) wc b k tx un n ln (ts ++ [t1] ++ [t]) ks'' vs'') ∧ Hid (Ext r w0 wc))
    case first =>
      go_region_law ((first | (refine step_append_lies _ (by rfl) _ _ _ (by rfl) 0 22 i0 (.pointer none) 1 8 Tryz.underlying37 hi hz0 hz1 hz2 rfl (by decide) ks' vs'.length vs' (by rfl) ((unhide HO2).alloc _) ⟨w2.heap.size, 0, none⟩ 1 1 [.pointer (some ⟨kb, 0, none⟩)] (by rfl) rfl (cell_one_new _ _ _) (fun u hu => by simp at hu; subst hu; rfl) (by decide) (by unfold maxLen; omega) (by omega) (Nat.zero_le _) (w2.heap.size + 1) (by simp) ?_; intro g cap w3 hown hgrow hat hlt; obtain ⟨e6, f6, HU3, HX3, HC3⟩ := kid_more rfl (unhide HU).drew (unhide HU2) hr0 (unhide HC2) (unhide HX2) (unhide HV2) _ hown hgrow hat; clear hown hgrow hat hlt) | (refine step_call rfl (by simp [Act.eval, hent, go_sem]) (Ret.call (block_any (unhide HC).drew hd4 (unhide HL)) (fun f w2 hf hx => ⟨rfl, Ret.inl ((unhide HP1).trans (bnd_inl hf)), ((unhide HX0).drew).trans hx⟩) ?_); intro t S1 v w2 hf hv cx1 hx; obtain ⟨kb, rfl⟩ := vNode_ptr hv; obtain ⟨e5, e5a, HO2, HU2⟩ := kid_call (unhide HU).drew hx (by omega); have HV2 := hide hv; have HC2 := hide cx1; have HX2 := hide (((unhide HX0).drew).trans hx); have HF := hide hf; clear hv cx1 hx hf)))
      all_goals
        go_wp2_with fail
        go_meet
        exact ⟨t, _, _, _, unhide HF, unhide HC3, unhide HU3, unhide HX3⟩
    case rest =>
      obtain ⟨t2, S5, ks2, vs2, HF2, cx5, HU5, HX5⟩ := hcut
      have HP2 : Hid (bodyP L S = .inr ((t1, t2), S5)) := (unhide HP1).trans (bnd_inr (unhide HF2))
      clear d5 g5 HP1 HF2
      go_wp2_with fail
      go_ret
      exact ⟨Ret.inr (unhide HP2) ⟨rfl, _, _, unhide HU5⟩ cx5, unhide HX5⟩
end Go.Proofs.YtjcoobkpmpjpbaaGreatDoor

namespace Go.Proofs.YtjcoobkpmpjpbaaGreatDoor
open Go.RowKit
attribute [local go_sem ↓] Go.wp_at_zero Go.wp_at_succ

set_option maxRecDepth 100000 in
set_option maxHeartbeats 8000000 in
theorem method_any {w : World} {r D : Nat} {S : LS} (cx : Cx w r S) (hD : S.dp = D) {L : Low} (hL : LowC r D L) :
    Calls Tryz.prog 91 #[.pointer (some ⟨r, 0, none⟩)] w fun e w' => Ret (methodP L S) r (vNode w.heap.size) e w' ∧ Ext r w w' := by
  obtain ⟨i0, hi, hz0, hz1, hz2⟩ := info_parts infoNode
  have hr0 := cx.jc.lt
  have HL := hide hL
  clear hL
  have HX0 : Hid (Ext r w w) := Ext.refl r w
  have hd0 := hD
  have HC0 := hide cx
  clear cx
  go_enter Tryz.func91, Tryz.ntmps91
  go_wp2_with fail
  refine (start_calls (unhide HC0) 4).mono ?_
  rintro e w1 ⟨v, rfl, ⟨rfl, hu⟩, cx1, hx⟩
  have HU1 := hide hu
  have HX1 := hide ((unhide HX0).trans hx)
  have HC1 := hide cx1
  have hd1 := hd0
  clear hu hx cx1 HC0 HX0
  go_wp2_with fail
  refine Ret.call (name_any (unhide HC1)) ?_ ?_
  · intro f wz hf hx
    exact ⟨rfl, Ret.inl (bnd_inl hf), (unhide HX1).trans hx⟩
  intro s2 S2 v w2 hf hv cx2 hx
  obtain rfl : v = .string s2 := hv
  have hon2 := name_on (unhide HC1).ok hf
  have hd2 : S2.dp = D := hon2.same.dp.trans hd1
  have HP2 := hide (show (methodP L S) = _ from bnd_inr hf)
  have HU2 := hide ((unhide HU1).ext hx fun j hj => by omega)
  have HX2 := hide ((unhide HX1).trans hx)
  have HC2 := hide cx2
  clear hf hx cx2 HC1 HX1 hd1 HU1
  obtain ⟨t0, hb⟩ := (unhide HU2).cells
  have dq : w2.cell? ⟨w.heap.size, 1, none⟩ = some (.string noText) := hcell hb 1
  have gq := hfroz hb 1
  clear hb
  have HU3 := hide ((unhide HU2).put 1 (.string s2) (tx' := s2) rfl)
  have HX3 := hide ((unhide HX2).setNew ⟨w.heap.size, 1, none⟩ (Nat.le_refl _) (.string s2))
  have HC3 := hide ((unhide HC2).setCell hr0 1 (.string s2))
  have hd3 := hd2
  clear HU2 HX2 HC2
  go_wp2_with fail
  refine Ret.callX (X := Ext r w) (function_any (unhide HC3) hd3 (unhide HL) (unhide HX3) hr0 (unhide HU3) (by simp)) ?_ ?_
  · intro f wz hf hx
    exact ⟨rfl, Ret.inl ((unhide HP2).trans (bnd_inl hf)), hx⟩
  intro pb S9 v w9 hf hv cx9 hx9
  obtain ⟨rfl, ks, vs, hu9⟩ := hv
  have HP9 := hide ((unhide HP2).trans (bnd_inr hf))
  clear hf
  go_wp2_with fail
  go_ret
  exact ⟨Ret.inr (unhide HP9) hu9.node cx9, hx9⟩

set_option maxRecDepth 100000 in
set_option maxHeartbeats 8000000 in
theorem fn_any {w : World} {r D : Nat} {S : LS} (cx : Cx w r S) (hD : S.dp = D) {L : Low} (hL : LowC r D L) (hk : S.kd ≠ 0) :
    Calls Tryz.prog 64 #[.pointer (some ⟨r, 0, none⟩)] w fun e w' => Ret (fnP L S) r (vNode w.heap.size) e w' ∧ Ext r w w' := by
  obtain ⟨i0, hi, hz0, hz1, hz2⟩ := info_parts infoNode
  have hr0 := cx.jc.lt
  have HL := hide hL
  clear hL
  have HX0 : Hid (Ext r w w) := Ext.refl r w
  have hd0 := hD
  have HC0 := hide cx
  clear cx
  go_enter Tryz.func64, Tryz.ntmps64
  go_wp2_with fail
  refine Ret.call (taken_any (unhide HC0) 5) ?_ ?_
  · intro f wz hf hx
    exact ⟨rfl, Ret.inl (bnd_inl hf), (unhide HX0).trans hx⟩
  intro a1 S1 v w1 hf hv cx1 hx
  obtain ⟨rfl, hu⟩ := hv
  have HU1 := hide hu
  have hon1 := take_on (unhide HC0).ok hk hf
  have hd1 : S1.dp = D := hon1.same.dp.trans hd0
  have HP1 := hide (show (fnP L S) = _ from bnd_inr hf)
  have HX1 := hide ((unhide HX0).trans hx)
  have HC1 := hide cx1
  clear hf hx cx1 HC0 HX0 hd0 hu
  go_wp2_with fail
  refine Ret.call (name_any (unhide HC1)) ?_ ?_
  · intro f wz hf hx
    exact ⟨rfl, Ret.inl ((unhide HP1).trans (bnd_inl hf)), (unhide HX1).trans hx⟩
  intro s2 S2 v w2 hf hv cx2 hx
  obtain rfl : v = .string s2 := hv
  have hon2 := name_on (unhide HC1).ok hf
  have hd2 : S2.dp = D := hon2.same.dp.trans hd1
  have HP2 := hide ((unhide HP1).trans (bnd_inr hf))
  have HU2 := hide ((unhide HU1).ext hx fun j hj => by omega)
  have HX2 := hide ((unhide HX1).trans hx)
  have HC2 := hide cx2
  clear hf hx cx2 HC1 HX1 hd1 HP1 HU1
  obtain ⟨t0, hb⟩ := (unhide HU2).cells
  have dq : w2.cell? ⟨w.heap.size, 1, none⟩ = some (.string noText) := hcell hb 1
  have gq := hfroz hb 1
  clear hb
  have HU3 := hide ((unhide HU2).put 1 (.string s2) (tx' := s2) rfl)
  have HX3 := hide ((unhide HX2).setNew ⟨w.heap.size, 1, none⟩ (Nat.le_refl _) (.string s2))
  have HC3 := hide ((unhide HC2).setCell hr0 1 (.string s2))
  have hd3 := hd2
  clear HU2 HX2 HC2
  go_wp2_with fail
  refine Ret.callX (X := Ext r w) (function_any (unhide HC3) hd3 (unhide HL) (unhide HX3) hr0 (unhide HU3) (by simp)) ?_ ?_
  · intro f wz hf hx
    exact ⟨rfl, Ret.inl ((unhide HP2).trans (bnd_inl hf)), hx⟩
  intro pb S9 v w9 hf hv cx9 hx9
  obtain ⟨rfl, ks, vs, hu9⟩ := hv
  have HP9 := hide ((unhide HP2).trans (bnd_inr hf))
  clear hf
  go_wp2_with fail
  go_ret
  exact ⟨Ret.inr (unhide HP9) hu9.node cx9, hx9⟩

set_option maxRecDepth 100000 in
set_option maxHeartbeats 8000000 in
theorem lambda_any {w : World} {r D : Nat} {S : LS} (cx : Cx w r S) (hD : S.dp = D) {L : Low} (hL : LowC r D L) (hk : S.kd ≠ 0) :
    Calls Tryz.prog 116 #[.pointer (some ⟨r, 0, none⟩)] w fun e w' => Ret (lambdaP L S) r (vNode w.heap.size) e w' ∧ Ext r w w' := by
  obtain ⟨i0, hi, hz0, hz1, hz2⟩ := info_parts infoNode
  have hr0 := cx.jc.lt
  have HL := hide hL
  clear hL
  have HX0 : Hid (Ext r w w) := Ext.refl r w
  have hd0 := hD
  have HC0 := hide cx
  clear cx
  go_enter Tryz.func116, Tryz.ntmps116
  go_wp2_with fail
  refine Ret.call (taken_any (unhide HC0) 28) ?_ ?_
  · intro f wz hf hx
    exact ⟨rfl, Ret.inl (bnd_inl hf), (unhide HX0).trans hx⟩
  intro a1 S1 v w1 hf hv cx1 hx
  obtain ⟨rfl, hu⟩ := hv
  have HU1 := hide hu
  have hon1 := take_on (unhide HC0).ok hk hf
  have hd1 : S1.dp = D := hon1.same.dp.trans hd0
  have HP1 := hide (show (lambdaP L S) = _ from bnd_inr hf)
  have HX1 := hide ((unhide HX0).trans hx)
  have HC1 := hide cx1
  clear hf hx cx1 HC0 HX0 hd0 hu
  go_wp2_with fail
  refine Ret.callX (X := Ext r w) (function_any (unhide HC1) hd1 (unhide HL) (unhide HX1) hr0 (unhide HU1) (by simp)) ?_ ?_
  · intro f wz hf hx
    exact ⟨rfl, Ret.inl ((unhide HP1).trans (bnd_inl hf)), hx⟩
  intro pb S9 v w9 hf hv cx9 hx9
  obtain ⟨rfl, ks, vs, hu9⟩ := hv
  have HP9 := hide ((unhide HP1).trans (bnd_inr hf))
  clear hf
  go_wp2_with fail
  go_ret
  exact ⟨Ret.inr (unhide HP9) hu9.node cx9, hx9⟩

end Go.Proofs.YtjcoobkpmpjpbaaGreatDoor

namespace Go.Proofs.YtjcoobkpmpjpbaaGreatDoor
open Go.RowKit
attribute [local go_sem ↓] Go.wp_at_zero Go.wp_at_succ

theorem limit_on0 {S S' : LS} {n : Nat} {a : Unit} (ok : Ok S) (h : limitP n S = .inr (a, S')) : On0 S S' := by
  rw [limit_on h]; exact On0.refl ok
theorem reads_value {r D : Nat} {L : Low} (hL : LowC r D L) {S : LS} (hd : S.dp = D) : Reads r 77 #[.pointer (some ⟨r, 0, none⟩)] L.V S := fun w cx => hL.v w S cx hd

set_option maxRecDepth 100000 in
set_option maxHeartbeats 8000000 in
theorem field_any {w : World} {r D : Nat} {S : LS} (cx : Cx w r S) (hD : S.dp = D) (n : Nat) (hk : S.kd ≠ 0) :
    Calls Tryz.prog 90 #[.pointer (some ⟨r, 0, none⟩), .int .i64 n] w fun e w' => Ret (fieldP n S) r (vNode w.heap.size) e w' ∧ Ext r w w' := by
  obtain ⟨i0, hi, hz0, hz1, hz2⟩ := info_parts infoNode
  have hr0 := cx.jc.lt
  have HX0 : Hid (Ext r w w) := Ext.refl r w
  have hd0 := hD
  have HC0 := hide cx
  clear cx
  go_enter Tryz.func90, Tryz.ntmps90
  go_wp2_with fail
  refine Ret.call (taken_any (unhide HC0) 3) ?_ ?_
  · intro f wz hf hx
    exact ⟨rfl, Ret.inl (bnd_inl hf), (unhide HX0).trans hx⟩
  intro a1 S1 v w1 hf hv cx1 hx
  obtain ⟨rfl, hu⟩ := hv
  have HU1 := hide hu
  have hon1 := take_on (unhide HC0).ok hk hf
  have hd1 : S1.dp = D := hon1.same.dp.trans hd0
  have HP1 := hide (show fieldP n S = _ from bnd_inr hf)
  have HX1 := hide ((unhide HX0).trans hx)
  have HC1 := hide cx1
  clear hf hx cx1 HC0 HX0 hd0 hu
  go_wp2_with fail
  refine Ret.call (limit_calls (unhide HC1) n) ?_ ?_
  · intro f wz hf hx
    exact ⟨rfl, Ret.inl ((unhide HP1).trans (bnd_inl hf)), (unhide HX1).trans hx⟩
  intro a2 S2 v w2 hf hv cx2 hx
  obtain rfl : v = .tuple #[] := hv
  have hon2 := limit_on0 (unhide HC1).ok hf
  have hd2 : S2.dp = D := hon2.same.dp.trans hd1
  have HP2 := hide ((unhide HP1).trans (bnd_inr hf))
  have HU2 := hide ((unhide HU1).ext hx fun j hj => by omega)
  have HX2 := hide ((unhide HX1).trans hx)
  have HC2 := hide cx2
  clear hf hx cx2 HC1 HX1 hd1 HP1 HU1
  go_wp2_with fail
  refine Ret.call (name_any (unhide HC2)) ?_ ?_
  · intro f wz hf hx
    exact ⟨rfl, Ret.inl ((unhide HP2).trans (bnd_inl hf)), (unhide HX2).trans hx⟩
  intro s3 S3 v w3 hf hv cx3 hx
  obtain rfl : v = .string s3 := hv
  have hon3 := name_on (unhide HC2).ok hf
  have hd3 : S3.dp = D := hon3.same.dp.trans hd2
  have HP3 := hide ((unhide HP2).trans (bnd_inr hf))
  have HU3 := hide ((unhide HU2).ext hx fun j hj => by omega)
  have HX3 := hide ((unhide HX2).trans hx)
  have HC3 := hide cx3
  clear hf hx cx3 HC2 HX2 hd2 HP2 HU2
  obtain ⟨t0, hb⟩ := (unhide HU3).cells
  have dq : w3.cell? ⟨w.heap.size, 1, none⟩ = some (.string noText) := hcell hb 1
  have gq := hfroz hb 1
  clear hb
  have HU4 := hide ((unhide HU3).put 1 (.string s3) (tx' := s3) rfl)
  have HX4 := hide ((unhide HX3).setNew ⟨w.heap.size, 1, none⟩ (Nat.le_refl _) (.string s3))
  have HC4 := hide ((unhide HC3).setCell hr0 1 (.string s3))
  have hd4 := hd3
  clear HU3 HX3 HC3
  go_wp2_with fail
  refine Ret.call (want_any (unhide HC4) tSemi) ?_ ?_
  · intro f wz hf hx
    exact ⟨rfl, Ret.inl ((unhide HP3).trans (bnd_inl hf)), (unhide HX4).trans hx⟩
  intro a5 S5 v w5 hf hv cx5 hx
  obtain rfl : v = .tuple #[] := hv
  have hon5 := want_on (unhide HC4).ok hf
  have hd5 : S5.dp = D := hon5.same.dp.trans hd4
  have HP5 := hide ((unhide HP3).trans (bnd_inr hf))
  have HU5 := hide ((unhide HU4).ext hx fun j hj => by omega)
  have HX5 := hide ((unhide HX4).trans hx)
  have HC5 := hide cx5
  clear hf hx cx5 HC4 HX4 hd4 HP3 HU4
  go_wp2_with fail
  go_ret
  exact ⟨Ret.inr (unhide HP5) ((unhide HU5).node) (unhide HC5), unhide HX5⟩

set_option maxRecDepth 100000 in
set_option maxHeartbeats 8000000 in
theorem variable_any {w : World} {r D : Nat} {S : LS} (cx : Cx w r S) (hD : S.dp = D) {L : Low} (hL : LowC r D L) (hk : S.kd ≠ 0) :
    Calls Tryz.prog 108 #[.pointer (some ⟨r, 0, none⟩)] w fun e w' => Ret (variableP L S) r (vNode w.heap.size) e w' ∧ Ext r w w' := by
  obtain ⟨i0, hi, hz0, hz1, hz2⟩ := info_parts infoNode
  have hr0 := cx.jc.lt
  have HL := hide hL
  clear hL
  have HX0 : Hid (Ext r w w) := Ext.refl r w
  have hd0 := hD
  have HC0 := hide cx
  clear cx
  go_enter Tryz.func108, Tryz.ntmps108
  go_wp2_with fail
  refine Ret.call (taken_any (unhide HC0) 8) ?_ ?_
  · intro f wz hf hx
    exact ⟨rfl, Ret.inl (bnd_inl hf), (unhide HX0).trans hx⟩
  intro a1 S1 v w1 hf hv cx1 hx
  obtain ⟨rfl, hu⟩ := hv
  have HU1 := hide hu
  have hon1 := take_on (unhide HC0).ok hk hf
  have hd1 : S1.dp = D := hon1.same.dp.trans hd0
  have HP1 := hide (show variableP L S = _ from bnd_inr hf)
  have HX1 := hide ((unhide HX0).trans hx)
  have HC1 := hide cx1
  clear hf hx cx1 HC0 HX0 hd0 hu
  go_wp2_with fail
  refine Ret.call (name_any (unhide HC1)) ?_ ?_
  · intro f wz hf hx
    exact ⟨rfl, Ret.inl ((unhide HP1).trans (bnd_inl hf)), (unhide HX1).trans hx⟩
  intro s2 S2 v w2 hf hv cx2 hx
  obtain rfl : v = .string s2 := hv
  have hon2 := name_on (unhide HC1).ok hf
  have hd2 : S2.dp = D := hon2.same.dp.trans hd1
  have HP2 := hide ((unhide HP1).trans (bnd_inr hf))
  have HU2 := hide ((unhide HU1).ext hx fun j hj => by omega)
  have HX2 := hide ((unhide HX1).trans hx)
  have HC2 := hide cx2
  clear hf hx cx2 HC1 HX1 hd1 HP1 HU1
  obtain ⟨t0, hb⟩ := (unhide HU2).cells
  have dq : w2.cell? ⟨w.heap.size, 1, none⟩ = some (.string noText) := hcell hb 1
  have gq := hfroz hb 1
  clear hb
  have HU3 := hide ((unhide HU2).put 1 (.string s2) (tx' := s2) rfl)
  have HX3 := hide ((unhide HX2).setNew ⟨w.heap.size, 1, none⟩ (Nat.le_refl _) (.string s2))
  have HC3 := hide ((unhide HC2).setCell hr0 1 (.string s2))
  have hd3 := hd2
  clear HU2 HX2 HC2
  go_wp2_with fail
  refine Ret.call (want_any (unhide HC3) tEqual) ?_ ?_
  · intro f wz hf hx
    exact ⟨rfl, Ret.inl ((unhide HP2).trans (bnd_inl hf)), (unhide HX3).trans hx⟩
  intro a4 S4 v w4 hf hv cx4 hx
  obtain rfl : v = .tuple #[] := hv
  have hon4 := want_on (unhide HC3).ok hf
  have hd4 : S4.dp = D := hon4.same.dp.trans hd3
  have HP4 := hide ((unhide HP2).trans (bnd_inr hf))
  have HU4 := hide ((unhide HU3).ext hx fun j hj => by omega)
  have HX4 := hide ((unhide HX3).trans hx)
  have HC4 := hide cx4
  clear hf hx cx4 HC3 HX3 hd3 HP2 HU3
  go_wp2_with fail
  refine Ret.callX (X := Ext r w) (closed_any (unhide HC4) (unhide HX4) hr0 (unhide HU4) (by simp) _ _ _ (reads_value (unhide HL) hd4) ((value_part (unhide HL)).ent)) ?_ ?_
  · intro f wz hf hx
    exact ⟨rfl, Ret.inl ((unhide HP4).trans (bnd_inl hf)), hx⟩
  intro t9 S9 v w9 hf hv cx9 hx9
  obtain ⟨rfl, ks, vs, hu9⟩ := hv
  have HP9 := hide ((unhide HP4).trans (bnd_inr hf))
  clear hf
  go_wp2_with fail
  go_ret
  exact ⟨Ret.inr (unhide HP9) hu9.node cx9, hx9⟩

set_option maxRecDepth 100000 in
set_option maxHeartbeats 8000000 in
theorem inPar_any {w : World} {r D : Nat} {S : LS} (cx : Cx w r S) (hD : S.dp = D) {L : Low} (hL : LowC r D L) :
    Calls Tryz.prog 113 #[.pointer (some ⟨r, 0, none⟩)] w fun e w' => Ret (inParP L S) r (vNode w.heap.size) e w' ∧ Ext r w w' := by
  obtain ⟨i0, hi, hz0, hz1, hz2⟩ := info_parts infoNode
  have hr0 := cx.jc.lt
  have HL := hide hL
  clear hL
  have HX0 : Hid (Ext r w w) := Ext.refl r w
  have hd0 := hD
  have HC0 := hide cx
  clear cx
  go_enter Tryz.func113, Tryz.ntmps113
  go_wp2_with fail
  refine Ret.call (want_any (unhide HC0) tOpen) ?_ ?_
  · intro f wz hf hx
    exact ⟨rfl, Ret.inl (bnd_inl hf), (unhide HX0).trans hx⟩
  intro a1 S1 v w1 hf hv cx1 hx
  obtain rfl : v = .tuple #[] := hv
  have hon1 := want_on (unhide HC0).ok hf
  have hd1 : S1.dp = D := hon1.same.dp.trans hd0
  have HP1 := hide (show inParP L S = _ from bnd_inr hf)
  have HX1 := hide ((unhide HX0).trans hx)
  have HC1 := hide cx1
  clear hf hx cx1 HC0 HX0 hd0
  go_wp2_with fail
  refine Ret.call ((unhide HL).v _ _ (unhide HC1) hd1) ?_ ?_
  · intro f wz hf hx
    exact ⟨rfl, Ret.inl ((unhide HP1).trans (bnd_inl hf)), (unhide HX1).trans hx⟩
  intro t2 S2 v w2 hf hv cx2 hx
  obtain ⟨kb, rfl⟩ := vNode_ptr hv
  have HV2 := hide hv
  have hsz2 := (unhide HX1).size
  have hon2 := (unhide HL).good.v _ _ _ (unhide HC1).ok hf
  have hd2 : S2.dp = D := hon2.same.dp.trans hd1
  have HP2 := hide ((unhide HP1).trans (bnd_inr hf))
  have HX2 := hide ((unhide HX1).trans hx)
  have HC2 := hide cx2
  clear hf hx cx2 HC1 HX1 hd1 HP1 hv
  go_wp2_with fail
  refine Ret.call (want_any (unhide HC2) tShut) ?_ ?_
  · intro f wz hf hx
    exact ⟨rfl, Ret.inl ((unhide HP2).trans (bnd_inl hf)), (unhide HX2).trans hx⟩
  intro a3 S3 v w3 hf hv cx3 hx
  obtain rfl : v = .tuple #[] := hv
  have hon3 := want_on (unhide HC2).ok hf
  have hd3 : S3.dp = D := hon3.same.dp.trans hd2
  have HP3 := hide ((unhide HP2).trans (bnd_inr hf))
  have HVV : Hid (vNode w.heap.size t2 _ w3) := NodeAt.mono (NodeAt.ext (unhide HV2) hx fun j hj => by omega) fun j hj => by omega
  have HX3 := hide ((unhide HX2).trans hx)
  have HC3 := hide cx3
  clear hf hx cx3 HC2 HX2 hd2 HP2
  go_wp2_with fail
  go_ret
  exact ⟨Ret.inr (unhide HP3) (unhide HVV) (unhide HC3), unhide HX3⟩

set_option maxRecDepth 100000 in
set_option maxHeartbeats 8000000 in
theorem returned_any {w : World} {r D : Nat} {S : LS} (cx : Cx w r S) (hD : S.dp = D) {L : Low} (hL : LowC r D L) (hk : S.kd ≠ 0) :
    Calls Tryz.prog 111 #[.pointer (some ⟨r, 0, none⟩)] w fun e w' => Ret (returnedP L S) r (vNode w.heap.size) e w' ∧ Ext r w w' := by
  obtain ⟨i0, hi, hz0, hz1, hz2⟩ := info_parts infoNode
  have hr0 := cx.jc.lt
  have HL := hide hL
  clear hL
  have HX0 : Hid (Ext r w w) := Ext.refl r w
  have hd0 := hD
  have HC0 := hide cx
  clear cx
  go_enter Tryz.func111, Tryz.ntmps111
  go_wp2_with fail
  refine Ret.call (taken_any (unhide HC0) 12) ?_ ?_
  · intro f wz hf hx
    exact ⟨rfl, Ret.inl (bnd_inl hf), (unhide HX0).trans hx⟩
  intro a1 S1 v w1 hf hv cx1 hx
  obtain ⟨rfl, hu⟩ := hv
  have HU1 := hide hu
  have hon1 := take_on (unhide HC0).ok hk hf
  have hd1 : S1.dp = D := hon1.same.dp.trans hd0
  have HP1 := hide (show returnedP L S = _ from bnd_inr hf)
  have HX1 := hide ((unhide HX0).trans hx)
  have HC1 := hide cx1
  clear hf hx cx1 HC0 HX0 hd0 hu
  go_wp2_with fail
  refine Ret.call (accept_any (unhide HC1) tSemi) ?_ ?_
  · intro f wz hf hx
    exact ⟨rfl, Ret.inl ((unhide HP1).trans (bnd_inl hf)), (unhide HX1).trans hx⟩
  intro b2 S2 v w2 hf hv cx2 hx
  obtain rfl : v = .bool b2 := hv
  have hon2 := (accept_on (unhide HC1).ok hf).1
  have hd2 : S2.dp = D := hon2.same.dp.trans hd1
  have HP2 := hide ((unhide HP1).trans (bnd_inr hf))
  have HU2 := hide ((unhide HU1).ext hx fun j hj => by omega)
  have HX2 := hide ((unhide HX1).trans hx)
  have HC2 := hide cx2
  clear hf hx cx2 HC1 HX1 hd1 HP1 HU1
  cases b2 with
  | true =>
    have HPt : Hid (returnedP L S = .inr (nd 12 S.tl [], S2)) := unhide HP2
    clear HP2
    go_wp2_with fail
    go_ret
    exact ⟨Ret.inr (unhide HPt) ((unhide HU2).node) (unhide HC2), unhide HX2⟩
  | false =>
    have HPf : Hid (returnedP L S = bnd (closeP L.V S2) fun t S3 => .inr (nd 12 S.tl [t], S3)) := unhide HP2
    clear HP2
    go_wp2_with fail
    refine Ret.callX (X := Ext r w) (closed_any (unhide HC2) (unhide HX2) hr0 (unhide HU2) (by simp) _ _ _ (reads_value (unhide HL) hd2) ((value_part (unhide HL)).ent)) ?_ ?_
    · intro f wz hf hx
      exact ⟨rfl, Ret.inl ((unhide HPf).trans (bnd_inl hf)), hx⟩
    intro t9 S9 v w9 hf hv cx9 hx9
    obtain ⟨rfl, ks, vs, hu9⟩ := hv
    have HP9 := hide ((unhide HPf).trans (bnd_inr hf))
    clear hf
    go_wp2_with fail
    go_ret
    exact ⟨Ret.inr (unhide HP9) hu9.node cx9, hx9⟩

end Go.Proofs.YtjcoobkpmpjpbaaGreatDoor
