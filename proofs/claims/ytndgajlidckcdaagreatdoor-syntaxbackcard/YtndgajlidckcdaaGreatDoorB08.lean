/-
  Parameters, blocks, functions.
  Blocks and functions.
  Functions.
  The reader of programs as plain functions: statements and values.
  The reader of programs as plain functions: values, and depth.
  Methods, functions, fields; variables.
-/
import Derived.Test.YtndgajlidckcdaaGreatDoorB07
import Derived.Deep.DeepCutAuto
namespace Go.Proofs.YtndgajlidckcdaaGreatDoor
open Go.RowKit
attribute [local go_sem ↓] Go.wp_at_zero Go.wp_at_succ

/-- What reads a value, a statement, a part behind - or !, at one depth. -/
structure LowC (r D : Nat) (L : Low) : Prop where
  good : LowGood L
  v : ∀ w S, Cx w r S → S.dp = D → Calls Tryz.prog 172 #[.pointer (some ⟨r, 0, none⟩)] w fun e w' => Ret (L.V S) r (vNode w.heap.size) e w' ∧ Ext r w w'
  s : ∀ w S, Cx w r S → S.dp = D → Calls Tryz.prog 125 #[.pointer (some ⟨r, 0, none⟩)] w fun e w' => Ret (L.S S) r (vNode w.heap.size) e w' ∧ Ext r w w'
  n : ∀ w S, Cx w r S → S.dp = D → Calls Tryz.prog 111 #[.pointer (some ⟨r, 0, none⟩), .func (.func 72) #[.pointer (some ⟨r, 0, none⟩)] #[]] w fun e w' => Ret (L.N S) r (vNode w.heap.size) e w' ∧ Ext r w w'

theorem vNew_node {lo k : Nat} {tx un : ByteArray} {n : Int} {ln : Nat} {v : Value} {w : World} (h : vNew lo k tx un n ln v w) : vNode lo ⟨k, tx, un, n, ln, []⟩ v w := by
  obtain ⟨rfl, h⟩ := h
  exact h.node

set_option maxRecDepth 100000 in
set_option maxHeartbeats 1000000 in
theorem param_any {w : World} {r : Nat} {S : LS} (cx : Cx w r S) :
    Calls Tryz.prog 242 #[.pointer (some ⟨r, 0, none⟩)] w fun e w' => Ret (paramP S) r (vNode w.heap.size) e w' ∧ Ext r w w' := by
  have hrj := cx.jc.lt
  go_enter Tryz.func242, Tryz.ntmps242
  go_wp2_with fail
  refine (start_calls cx 24).mono ?_
  rintro e w1 ⟨v, rfl, ⟨rfl, hu⟩, cx1, hx1⟩
  clear cx
  go_wp2_with fail
  refine Ret.call (name_any cx1) ?_ ?_
  · intro f w2 hf hx
    exact ⟨rfl, Ret.inl (bnd_inl hf), hx1.trans hx⟩
  · intro s S1 v w2 hf hv cx2 hx
    obtain rfl : v = .string s := hv
    have hu2 := hu.ext hx fun j hj => by omega
    obtain ⟨t0, hb⟩ := hu2.cells
    have d1 : w2.cell? ⟨w.heap.size, 1, none⟩ = some (.string noText) := hcell hb 1
    have g1 := hfroz hb 1
    have HP : Hid (paramP S = .inr (⟨24, s, noText, 0, S.tl, []⟩, S1)) := bnd_inr hf
    have HU := hide hu2
    have HX := hide (hx1.trans hx)
    clear hf hu hu2 hb hx hx1 cx1
    go_wp2_with fail
    go_ret
    refine ⟨Ret.inr (unhide HP) ?_ (cx2.setCell hrj _ _), (unhide HX).setNew _ (Nat.le_refl _) _⟩
    exact ((unhide HU).put 1 (.string s) (tx' := s) rfl).node

theorem param_part (r D : Nat) : Part r D 242 #[.pointer (some ⟨r, 0, none⟩)] paramP :=
  ⟨fun _ => by kernel_rfl, paramP_good, fun _ _ cx _ => param_any cx⟩
theorem value_part {r D : Nat} {L : Low} (hL : LowC r D L) : Part r D 172 #[.pointer (some ⟨r, 0, none⟩)] L.V :=
  ⟨fun _ => by kernel_rfl, hL.good.v, hL.v⟩

set_option maxRecDepth 100000 in
set_option maxHeartbeats 1000000 in
theorem params_any {w : World} {r : Nat} {S : LS} (cx : Cx w r S) :
    Calls Tryz.prog 215 #[.pointer (some ⟨r, 0, none⟩)] w fun e w' => Ret (paramsP S) r (vNode w.heap.size) e w' ∧ Ext r w w' := by
  have hrj := cx.jc.lt
  go_enter Tryz.func215, Tryz.ntmps215
  go_wp2_with fail
  refine (start_calls cx 6).mono ?_
  rintro e w1 ⟨v, rfl, ⟨rfl, hu⟩, cx1, hx1⟩
  clear cx
  go_wp2_with fail
  refine Ret.call (want_any cx1 tOpen) ?_ ?_
  · intro f w2 hf hx
    exact ⟨rfl, Ret.inl (bnd_inl hf), hx1.trans hx⟩
  intro a S1 v w2 hf hv cx2 hx2
  obtain rfl : v = .tuple #[] := hv
  have HP1 : Hid (paramsP S = bnd (listedP tShut paramP S1) fun ks S2 => .inr (⟨6, noText, noText, 0, S.tl, ks⟩, S2)) := bnd_inr hf
  have hu2 := hu.ext hx2 fun j hj => by omega
  have hlt : w.heap.size < w2.heap.size := by
    obtain ⟨t0, hb⟩ := hu2.cells
    exact (Array.getElem?_eq_some_iff.1 hb).1
  have HU := hide hu2
  have HX := hide (hx1.trans hx2)
  clear hf hu hx1 hx2 cx1 hu2
  go_wp2_with fail
  refine Ret.call (listed_any cx2 rfl tShut 242 _ paramP (param_part r _)) ?_ ?_
  · intro f w3 hf hx
    exact ⟨rfl, Ret.inl ((unhide HP1).trans (bnd_inl hf)), (unhide HX).trans hx⟩
  intro ks S2 v w3 hf hv cx3 hx3
  obtain ⟨vs, hl, -⟩ := hv
  have HP2 : Hid (paramsP S = .inr (⟨6, noText, noText, 0, S.tl, ks⟩, S2)) := (unhide HP1).trans (bnd_inr hf)
  have hu3 := (unhide HU).ext hx3 fun j hj => by omega
  obtain ⟨t0, hb⟩ := hu3.cells
  have d5 : w3.cell? ⟨w.heap.size, 5, none⟩ = some (.slice none 0 0) := hcell hb 5
  have g5 := hfroz hb 5
  obtain ⟨la, lcap, rfl⟩ := hl.form
  have HU3 := hide (hu3.setKids hl hlt)
  have HX3 := hide ((unhide HX).trans hx3)
  clear hf hu3 hl hb hx3 HX HU cx2 HP1
  go_wp2_with fail
  go_ret
  exact ⟨Ret.inr (unhide HP2) (unhide HU3).node (cx3.setCell hrj _ _), (unhide HX3).setNew _ (Nat.le_refl _) _⟩

end Go.Proofs.YtndgajlidckcdaaGreatDoor

namespace Go.Proofs.YtndgajlidckcdaaGreatDoor
open Go.RowKit
attribute [local go_sem ↓] Go.wp_at_zero Go.wp_at_succ

theorem ent_stmt (r : Nat) : ∀ w : World, Sem.run Tryz.prog (callFunc 125 #[.pointer (some ⟨r, 0, none⟩)]) w = .ok (.enter 125 #[.pointer (some ⟨r, 0, none⟩)]) w := fun _ => by kernel_rfl

set_option maxRecDepth 100000 in
set_option maxHeartbeats 8000000 in
theorem block_any {w : World} {r D : Nat} {S : LS} (cx : Cx w r S) (hD : S.dp = D) {L : Low} (hL : LowC r D L) :
    Calls Tryz.prog 216 #[.pointer (some ⟨r, 0, none⟩)] w fun e w' => Ret (blockP L S) r (vNode w.heap.size) e w' ∧ Ext r w w' := by
  obtain ⟨i0, hi, hz0, hz1, hz2⟩ := info_parts infoNode
  have hr0 := cx.jc.lt
  have hent := ent_stmt r
  have HLC := hide hL
  clear hL
  go_enter Tryz.func216, Tryz.ntmps216
  go_wp2_with fail
  refine (start_calls cx 7).mono ?_
  rintro e w1 ⟨v, rfl, ⟨rfl, hu⟩, cx1, hx1⟩
  clear cx
  go_wp2_with fail
  refine Ret.call (want_any cx1 tLeft) ?_ ?_
  · intro f w2 hf hx
    exact ⟨rfl, Ret.inl (bnd_inl hf), hx1.trans hx⟩
  intro a S1 v w2 hf hv cx2 hx2
  obtain rfl : v = .tuple #[] := hv
  have HP1 : Hid (blockP L S = bnd (untilP tRight L.S 3002 [] S1) fun ks S2 => .inr (⟨7, noText, noText, 0, S.tl, ks⟩, S2)) := bnd_inr hf
  have hon := want_on cx1.ok hf
  have hd1 : S1.dp = D := hon.same.dp.trans hD
  have HU2 := hide (hu.ext hx2 fun j hj => by omega)
  have HX2 := hide (hx1.trans hx2)
  clear hf hu hx1 hx2 cx1 hon
  go_wp2_with fail
  go_loopg [] 3002 (fun gg wr => ∃ (S' : LS) (acc : List Tree) (ks : Value) (vs : List Value), Cx wr r S' ∧ S'.dp = D ∧ Hid (Und (fun j => w.heap.size ≤ j) wr w.heap.size 7 noText noText 0 S.tl acc ks vs) ∧ Hid (Ext r w wr) ∧ 3002 ≤ gg + S'.tp ∧ acc.length ≤ S'.tp ∧
    Hid ((bnd (untilP tRight L.S gg acc S') fun ks S2 => .inr (⟨7, noText, noText, 0, S.tl, ks⟩, S2)) = blockP L S))
  case atStart => exact ⟨S1, [], _, _, cx2, hd1, unhide HU2, unhide HX2, by omega, by simp, (unhide HP1).symm⟩
  case round =>
    clear cx2 hd1 HU2 HX2 HP1
    obtain ⟨S', acc, ks, vs, cx, hdp, HU, HX0, hgg, hacc, HE⟩ := hrel
    have htp : S'.tp ≤ 3000 := Nat.le_trans cx.ok.tp (Nat.le_trans cx.ok.fit.pl cx.ok.fit.size)
    obtain ⟨f, hgf⟩ : ∃ f, gk = f + 1 := ⟨gk - 1, by omega⟩
    subst hgf
    have HE1 : Hid ((bnd (bnd (acceptP tRight S') fun b S1 => if b = true then .inr (acc, S1) else bnd (L.S S1) fun t S2 => untilP tRight L.S f (acc ++ [t]) S2) fun ks S2 => .inr (⟨7, noText, noText, 0, S.tl, ks⟩, S2)) = blockP L S) := unhide HE
    clear HE
    go_wp2_with fail
    refine Ret.call (accept_any cx tRight) ?_ ?_
    · intro fl w3 hf hx
      exact ⟨rfl, Ret.inl ((unhide HE1).symm.trans (bnd_inl (bnd_inl hf))), (unhide HX0).trans hx⟩
    intro b S3 v w3 hf hv cx3 hx3
    obtain rfl : v = .bool b := hv
    have hon := accept_on cx.ok hf
    have HU3 := hide ((unhide HU).ext hx3 fun j hj => by omega)
    have HX3 := hide ((unhide HX0).trans hx3)
    have HE3 := hide ((congrArg (fun z => bnd z fun ks S2 => (.inr (⟨7, noText, noText, 0, S.tl, ks⟩, S2) : Res Tree)) (bnd_inr hf)).symm.trans (unhide HE1))
    clear hf HU HX0 HE1 hx3 cx
    cases b with
    | true =>
      clear hon
      go_wp2_with fail
      go_ret
      exact ⟨Ret.inr (unhide HE3).symm (unhide HU3).node cx3, unhide HX3⟩
    | false =>
      obtain rfl := hon.2.2 rfl
      clear hon
      have hvs : vs.length ≤ 3000 := by rw [(unhide HU3).len]; omega
      obtain ⟨t0, hb⟩ := (unhide HU3).cells
      have d5 : w3.cell? ⟨w.heap.size, 5, none⟩ = some ks := hcell hb 5
      have g5 := hfroz hb 5
      have HU := HU3
      have HX0 := HX3
      have HC := hide cx3
      have HE := HE3
      clear HU3 HX3 cx3 HE3 hb
      go_wp2_with fail
      go_region_law ((first | (refine step_append_lies _ (by rfl) _ _ _ (by rfl) 0 22 i0 (.pointer none) 1 8 Tryz.underlying51 hi hz0 hz1 hz2 rfl (by decide) ks vs.length vs (by rfl) ((unhide HO2).alloc _) ⟨w2.heap.size, 0, none⟩ 1 1 [.pointer (some ⟨kb, 0, none⟩)] (by rfl) rfl (cell_one_new _ _ _) (fun u hu => by simp at hu; subst hu; rfl) (by decide) (by unfold maxLen; omega) (by omega) (Nat.zero_le _) (w2.heap.size + 1) (by simp) ?_; intro g cap w3 hown hgrow hat hlt; obtain ⟨e6, f6, HU3, HX3, HC3⟩ := kid_more rfl (unhide HU).drew (unhide HU2) hr0 (unhide HC2) (unhide HX2) (unhide HV2) _ hown hgrow hat; clear hown hgrow hat hlt) | (refine step_call rfl (by simp [Act.eval, hent, go_sem]) (Ret.call ((unhide HLC).s _ _ (unhide HC).drew hdp) (fun f w2 hf hx => ⟨rfl, Ret.inl ((unhide HE).symm.trans (bnd_inl (bnd_inl hf))), ((unhide HX0).drew).trans hx⟩) ?_); intro t S1 v w2 hf hv cx1 hx; obtain ⟨kb, rfl⟩ := vNode_ptr hv; obtain ⟨e5, e5a, HO2, HU2⟩ := kid_call (unhide HU).drew hx (by omega); have HV2 := hide hv; have HC2 := hide cx1; have HX2 := hide (((unhide HX0).drew).trans hx); have HF := hide hf; clear hv cx1 hx hf)))
      all_goals
        have cx4 := unhide HC3
        have hon4 := (unhide HLC).good.s _ _ _ (unhide HC).ok (unhide HF)
        have htp4 := hon4.tp
        have hd4 := hon4.same.dp.trans hdp
        have HE4 := hide ((congrArg (fun z => bnd z fun ks S2 => (.inr (⟨7, noText, noText, 0, S.tl, ks⟩, S2) : Res Tree)) (bnd_inr (unhide HF))).symm.trans (unhide HE))
        clear d5 g5 hon4 HF HE HU HX0 HC e5 e5a e6 f6
        go_wp2_with fail
        go_roundg f
        case measure => omega
        case rel => exact ⟨_, acc ++ [t], _, _, cx4, hd4, unhide HU3, unhide HX3, by omega, by simp; omega, unhide HE4⟩
end Go.Proofs.YtndgajlidckcdaaGreatDoor

namespace Go.Proofs.YtndgajlidckcdaaGreatDoor
open Go.RowKit
attribute [local go_sem ↓] Go.wp_at_zero Go.wp_at_succ

theorem ent_params (r : Nat) : ∀ w : World, Sem.run Tryz.prog (callFunc 215 #[.pointer (some ⟨r, 0, none⟩)]) w = .ok (.enter 215 #[.pointer (some ⟨r, 0, none⟩)]) w := fun _ => by kernel_rfl
theorem ent_block (r : Nat) : ∀ w : World, Sem.run Tryz.prog (callFunc 216 #[.pointer (some ⟨r, 0, none⟩)]) w = .ok (.enter 216 #[.pointer (some ⟨r, 0, none⟩)]) w := fun _ => by kernel_rfl

set_option maxRecDepth 100000 in
set_option maxHeartbeats 8000000 in
theorem function_any {w0 w : World} {r D : Nat} {S : LS} (cx : Cx w r S) (hD : S.dp = D) {L : Low} (hL : LowC r D L) (hx0 : Ext r w0 w) (hr0 : r + 18 < w0.heap.size) {b k : Nat} {tx un : ByteArray} {n : Int} {ln : Nat} {ts : List Tree} {ks : Value} {vs : List Value} (hu : Und (fun j => w0.heap.size ≤ j) w b k tx un n ln ts ks vs) (hts : ts.length ≤ 5000) :
    Calls Tryz.prog 186 #[.pointer (some ⟨r, 0, none⟩), .pointer (some ⟨b, 0, none⟩)] w fun e w' => Ret (bodyP L S) r (fun pb => vKid w0.heap.size b k tx un n ln (ts ++ [pb.1] ++ [pb.2])) e w' ∧ Ext r w0 w' := by
  obtain ⟨i0, hi, hz0, hz1, hz2⟩ := info_parts infoNode
  obtain ⟨t0, hb⟩ := hu.cells
  have d5 : w.cell? ⟨b, 5, none⟩ = some ks := hcell hb 5
  have g5 := hfroz hb 5
  have hvs : vs.length ≤ 5000 := by rw [hu.len]; exact hts
  have hent := ent_params r
  have HU := hide hu
  have HL := hide hL
  have HC := hide cx
  have HX0 := hide hx0
  clear hu hL cx hx0 hb
  go_enter Tryz.func186, Tryz.ntmps186
  go_wp2_with fail
  go_cut [] (fun wc => ∃ (t : Tree) (S4 : LS) (ks' : Value) (vs' : List Value), Hid (paramsP S = .inr (t, S4)) ∧ Cx wc r S4 ∧ Hid (Und (fun j => w0.heap.size ≤ j) wc b k tx un n ln (ts ++ [t]) ks' vs') ∧ Hid (Ext r w0 wc))
  case first =>
    go_region_law ((first | (refine step_append_lies _ (by rfl) _ _ _ (by rfl) 0 22 i0 (.pointer none) 1 8 Tryz.underlying51 hi hz0 hz1 hz2 rfl (by decide) ks vs.length vs (by rfl) ((unhide HO2).alloc _) ⟨w2.heap.size, 0, none⟩ 1 1 [.pointer (some ⟨kb, 0, none⟩)] (by rfl) rfl (cell_one_new _ _ _) (fun u hu => by simp at hu; subst hu; rfl) (by decide) (by unfold maxLen; omega) (by omega) (Nat.zero_le _) (w2.heap.size + 1) (by simp) ?_; intro g cap w3 hown hgrow hat hlt; obtain ⟨e6, f6, HU3, HX3, HC3⟩ := kid_more rfl (unhide HU).drew (unhide HU2) hr0 (unhide HC2) (unhide HX2) (unhide HV2) _ hown hgrow hat; clear hown hgrow hat hlt) | (refine step_call rfl (by simp [Act.eval, hent, go_sem]) (Ret.call (params_any (unhide HC).drew) (fun f w2 hf hx => ⟨rfl, Ret.inl (bnd_inl hf), ((unhide HX0).drew).trans hx⟩) ?_); intro t S1 v w2 hf hv cx1 hx; obtain ⟨kb, rfl⟩ := vNode_ptr hv; obtain ⟨e5, e5a, HO2, HU2⟩ := kid_call (unhide HU).drew hx (by omega); have HV2 := hide hv; have HC2 := hide cx1; have HX2 := hide (((unhide HX0).drew).trans hx); have HF := hide hf; clear hv cx1 hx hf)))
    all_goals
      go_wp2_with fail
      go_meet
      exact ⟨t, _, _, _, unhide HF, unhide HC3, unhide HU3, unhide HX3⟩
  case rest =>
    obtain ⟨t1, S4, ks', vs', HF1, cx4, HU4, HX4⟩ := hcut
    have hon := paramsP_good _ _ _ (unhide HC).ok (unhide HF1)
    have hd4 : S4.dp = D := hon.same.dp.trans hD
    have HP1 : Hid (bodyP L S = bnd (blockP L S4) fun b S2 => .inr ((t1, b), S2)) := bnd_inr (unhide HF1)
    have hvs' : vs'.length ≤ 5001 := by rw [(unhide HU4).len]; simp; omega
    clear d5 g5 hent HU HX0 HC HF1 hon hvs
    obtain ⟨t0, hb⟩ := (unhide HU4).cells
    have d5 : wc.cell? ⟨b, 5, none⟩ = some ks' := hcell hb 5
    have g5 := hfroz hb 5
    have hent := ent_block r
    have HU := HU4
    have HX0 := HX4
    have HC := hide cx4
    clear hb HU4 HX4 cx4
    go_wp2_with fail
    go_cut [] (fun wc => ∃ (t : Tree) (S5 : LS) (ks'' : Value) (vs'' : List Value), Hid (blockP L S4 = .inr (t, S5)) ∧ Cx wc r S5 ∧ Hid (Und (fun j => w0.heap.size ≤ j) wc b k tx un n ln (ts ++ [t1] ++ [t]) ks'' vs'') ∧ Hid (Ext r w0 wc))
    case first =>
      go_region_law ((first | (refine step_append_lies _ (by rfl) _ _ _ (by rfl) 0 22 i0 (.pointer none) 1 8 Tryz.underlying51 hi hz0 hz1 hz2 rfl (by decide) ks' vs'.length vs' (by rfl) ((unhide HO2).alloc _) ⟨w2.heap.size, 0, none⟩ 1 1 [.pointer (some ⟨kb, 0, none⟩)] (by rfl) rfl (cell_one_new _ _ _) (fun u hu => by simp at hu; subst hu; rfl) (by decide) (by unfold maxLen; omega) (by omega) (Nat.zero_le _) (w2.heap.size + 1) (by simp) ?_; intro g cap w3 hown hgrow hat hlt; obtain ⟨e6, f6, HU3, HX3, HC3⟩ := kid_more rfl (unhide HU).drew (unhide HU2) hr0 (unhide HC2) (unhide HX2) (unhide HV2) _ hown hgrow hat; clear hown hgrow hat hlt) | (refine step_call rfl (by simp [Act.eval, hent, go_sem]) (Ret.call (block_any (unhide HC).drew hd4 (unhide HL)) (fun f w2 hf hx => ⟨rfl, Ret.inl ((unhide HP1).trans (bnd_inl hf)), ((unhide HX0).drew).trans hx⟩) ?_); intro t S1 v w2 hf hv cx1 hx; obtain ⟨kb, rfl⟩ := vNode_ptr hv; obtain ⟨e5, e5a, HO2, HU2⟩ := kid_call (unhide HU).drew hx (by omega); have HV2 := hide hv; have HC2 := hide cx1; have HX2 := hide (((unhide HX0).drew).trans hx); have HF := hide hf; clear hv cx1 hx hf)))
      all_goals
        go_wp2_with fail
        go_meet
        exact ⟨t, _, _, _, unhide HF, unhide HC3, unhide HU3, unhide HX3⟩
    case rest =>
      obtain ⟨t2, S5, ks2, vs2, HF2, cx5, HU5, HX5⟩ := hcut
      have HP2 : Hid (bodyP L S = .inr ((t1, t2), S5)) := (unhide HP1).trans (bnd_inr (unhide HF2))
      clear d5 g5 HP1 HF2
      go_wp2_with fail
      go_ret
      exact ⟨Ret.inr (unhide HP2) ⟨rfl, _, _, unhide HU5⟩ cx5, unhide HX5⟩
end Go.Proofs.YtndgajlidckcdaaGreatDoor

namespace Go.Proofs.YtndgajlidckcdaaGreatDoor
open Go.RowKit

def tk (l : List UInt8) : ByteArray := ⟨l.toArray⟩
def wClass : ByteArray := ⟨#[99, 108, 97, 115, 115]⟩
def wField : ByteArray := ⟨#[102, 105, 101, 108, 100]⟩
def wFn : ByteArray := ⟨#[102, 110]⟩
def wVar : ByteArray := ⟨#[118, 97, 114]⟩
def wIf : ByteArray := ⟨#[105, 102]⟩
def wElse : ByteArray := ⟨#[101, 108, 115, 101]⟩
def wWhile : ByteArray := ⟨#[119, 104, 105, 108, 101]⟩
def wReturn : ByteArray := ⟨#[114, 101, 116, 117, 114, 110]⟩
def wThrow : ByteArray := ⟨#[116, 104, 114, 111, 119]⟩
def wTry : ByteArray := ⟨#[116, 114, 121]⟩
def wCatch : ByteArray := ⟨#[99, 97, 116, 99, 104]⟩
def wPrint : ByteArray := ⟨#[112, 114, 105, 110, 116]⟩
def wTrue : ByteArray := ⟨#[116, 114, 117, 101]⟩
def wFalse : ByteArray := ⟨#[102, 97, 108, 115, 101]⟩
def wNil : ByteArray := ⟨#[110, 105, 108]⟩
def wThis : ByteArray := ⟨#[116, 104, 105, 115]⟩
def wNew : ByteArray := ⟨#[110, 101, 119]⟩
def wSuper : ByteArray := ⟨#[115, 117, 112, 101, 114]⟩
def wInput : ByteArray := ⟨#[105, 110, 112, 117, 116]⟩
def wLen : ByteArray := ⟨#[108, 101, 110]⟩

def nd (k ln : Nat) (ks : List Tree) : Tree := ⟨k, noText, noText, 0, ln, ks⟩
def ndT (k : Nat) (s : ByteArray) (ln : Nat) (ks : List Tree) : Tree := ⟨k, s, noText, 0, ln, ks⟩

def closeP (P : LS → Res Tree) (S : LS) : Res Tree := bnd (P S) fun t S1 => bnd (wantP tSemi S1) fun _ S2 => .inr (t, S2)
theorem closeP_good {P : LS → Res Tree} (hP : Good P) : Good (closeP P) := fun S a S' ok h => by
  obtain ⟨t, S1, h1, h⟩ := bnd_some h
  obtain ⟨_, S2, h2, h⟩ := bnd_some h
  cases h
  have o1 := hP _ _ _ ok h1
  exact o1.trans (want_on o1.ok h2)

def methodP (L : Low) (S : LS) : Res Tree := bnd (nameP S) fun s S2 => bnd (bodyP L S2) fun pb S3 => .inr (ndT 4 s S.tl [pb.1, pb.2], S3)
theorem methodP_good {L : Low} (hL : LowGood L) : Good (methodP L) := fun S a S' ok h => by
  obtain ⟨s, S1, h1, h⟩ := bnd_some h
  obtain ⟨pb, S2, h2, h⟩ := bnd_some h
  cases h
  have o1 := name_on ok h1
  exact o1.trans (bodyP_good hL _ _ _ o1.ok h2)
def fnP (L : Low) (S : LS) : Res Tree := bnd (takeP S) fun _ S1 => bnd (nameP S1) fun s S2 => bnd (bodyP L S2) fun pb S3 => .inr (ndT 5 s S.tl [pb.1, pb.2], S3)
theorem fnP_on {L : Low} (hL : LowGood L) {S S' : LS} {a : Tree} (ok : Ok S) (hk : S.kd ≠ 0) (h : fnP L S = .inr (a, S')) : On S S' := by
  obtain ⟨_, S1, h1, h⟩ := bnd_some h
  obtain ⟨s, S2, h2, h⟩ := bnd_some h
  obtain ⟨pb, S3, h3, h⟩ := bnd_some h
  cases h
  have o1 := take_on ok hk h1
  have o2 := name_on o1.ok h2
  exact (o1.trans o2).trans (bodyP_good hL _ _ _ o2.ok h3)
def lambdaP (L : Low) (S : LS) : Res Tree := bnd (takeP S) fun _ S1 => bnd (bodyP L S1) fun pb S2 => .inr (nd 28 S.tl [pb.1, pb.2], S2)
theorem lambdaP_on {L : Low} (hL : LowGood L) {S S' : LS} {a : Tree} (ok : Ok S) (hk : S.kd ≠ 0) (h : lambdaP L S = .inr (a, S')) : On S S' := by
  obtain ⟨_, S1, h1, h⟩ := bnd_some h
  obtain ⟨pb, S2, h2, h⟩ := bnd_some h
  cases h
  have o1 := take_on ok hk h1
  exact o1.trans (bodyP_good hL _ _ _ o1.ok h2)
def fieldP (n : Nat) (S : LS) : Res Tree := bnd (takeP S) fun _ S1 => bnd (limitP n S1) fun _ S2 => bnd (nameP S2) fun s S3 => bnd (wantP tSemi S3) fun _ S4 => .inr (ndT 3 s S.tl [], S4)
theorem fieldP_on {n : Nat} {S S' : LS} {a : Tree} (ok : Ok S) (hk : S.kd ≠ 0) (h : fieldP n S = .inr (a, S')) : On S S' ∧ n ≠ 8 := by
  obtain ⟨_, S1, h1, h'⟩ := bnd_some h
  clear h
  obtain ⟨_, S2, h2, h⟩ := bnd_some h'
  clear h'
  have hn : n ≠ 8 := fun e => by rw [limitP, if_pos e] at h2; cases h2
  obtain rfl := limit_on h2
  obtain ⟨s, S3, h3, h'⟩ := bnd_some h
  obtain ⟨_, S4, h4, h''⟩ := bnd_some h'
  cases h''
  have o1 := take_on ok hk h1
  have o3 := name_on o1.ok h3
  exact ⟨(o1.trans o3).trans (want_on o3.ok h4), hn⟩
def fieldsP : Nat → List Tree → LS → Res (List Tree)
  | 0, _, S => .inl (0, S.tp)
  | f + 1, acc, S => if S.is wField = true then bnd (fieldP acc.length S) fun t S1 => fieldsP f (acc ++ [t]) S1 else .inr (acc, S)
theorem fieldsP_on : ∀ (f : Nat) (acc l : List Tree) (S S' : LS), Ok S → fieldsP f acc S = .inr (l, S') → On0 S S'
  | 0, acc, l, S, S', ok, h => by cases h
  | f + 1, acc, l, S, S', ok, h => by
    rw [fieldsP] at h
    split at h
    · rename_i hi
      obtain ⟨t, S1, h1, h⟩ := bnd_some h
      have o1 := (fieldP_on ok (is_kd hi) h1).1
      exact o1.weak.trans (fieldsP_on f _ l S1 S' o1.ok h)
    · cases h
      exact On0.refl ok
/-- The name of a class that this one is under. -/
def underP (S : LS) : Res ByteArray := bnd (acceptP tLess S) fun b S1 => if b = true then nameP S1 else .inr (noText, S1)
theorem underP_on {S S' : LS} {a : ByteArray} (ok : Ok S) (h : underP S = .inr (a, S')) : On0 S S' := by
  obtain ⟨b, S1, h1, h⟩ := bnd_some h
  have o1 := (accept_on ok h1).1
  split at h
  · exact o1.trans (name_on o1.ok h).weak
  · cases h; exact o1
def classP (L : Low) (S : LS) : Res Tree := bnd (takeP S) fun _ S1 => bnd (nameP S1) fun s S2 => bnd (underP S2) fun u S3 => bnd (wantP tLeft S3) fun _ S4 => bnd (fieldsP 10 [] S4) fun fs S5 =>
  bnd (untilP tRight (methodP L) 3002 fs S5) fun ks S6 => .inr (⟨2, s, u, 0, S.tl, ks⟩, S6)
theorem classP_on {L : Low} (hL : LowGood L) {S S' : LS} {a : Tree} (ok : Ok S) (hk : S.kd ≠ 0) (h : classP L S = .inr (a, S')) : On S S' := by
  obtain ⟨_, S1, h1, h⟩ := bnd_some h
  obtain ⟨s, S2, h2, h⟩ := bnd_some h
  obtain ⟨u, S3, h3, h⟩ := bnd_some h
  obtain ⟨_, S4, h4, h⟩ := bnd_some h
  obtain ⟨fs, S5, h5, h⟩ := bnd_some h
  obtain ⟨ks, S6, h6, h⟩ := bnd_some h
  cases h
  have o1 := take_on ok hk h1
  have o2 := name_on o1.ok h2
  have o3 := underP_on o2.ok h3
  have o4 := want_on o3.ok h4
  have o5 := fieldsP_on _ _ _ _ _ o4.ok h5
  exact ((((o1.trans o2).trans0 o3).trans o4).trans0 o5).trans (untilP_on (methodP_good hL) _ _ _ _ _ o5.ok h6)
def outermostP (L : Low) (S : LS) : Res Tree := if S.is wClass = true then classP L S else if S.is wFn = true then fnP L S else L.S S
theorem outermostP_good {L : Low} (hL : LowGood L) : Good (outermostP L) := fun S a S' ok h => by
  unfold outermostP at h
  split at h
  · rename_i hi; exact classP_on hL ok (is_kd hi) h
  · split at h
    · rename_i hi; exact fnP_on hL ok (is_kd hi) h
    · exact hL.s _ _ _ ok h
def progLoop (L : Low) : Nat → List Tree → LS → Res (List Tree)
  | 0, _, S => .inl (0, S.tp)
  | f + 1, acc, S => if S.kd = 0 then .inr (acc, S) else bnd (outermostP L S) fun t S1 => progLoop L f (acc ++ [t]) S1
def programP (L : Low) (S : LS) : Res Tree := bnd (progLoop L 3002 [] S) fun ks S1 => .inr (nd 1 S.tl ks, S1)

def variableP (L : Low) (S : LS) : Res Tree := bnd (takeP S) fun _ S1 => bnd (nameP S1) fun s S2 => bnd (wantP tEqual S2) fun _ S3 => bnd (closeP L.V S3) fun t S4 => .inr (ndT 8 s S.tl [t], S4)
theorem variableP_on {L : Low} (hL : LowGood L) {S S' : LS} {a : Tree} (ok : Ok S) (hk : S.kd ≠ 0) (h : variableP L S = .inr (a, S')) : On S S' := by
  obtain ⟨_, S1, h1, h⟩ := bnd_some h
  obtain ⟨s, S2, h2, h⟩ := bnd_some h
  obtain ⟨_, S3, h3, h⟩ := bnd_some h
  obtain ⟨t, S4, h4, h⟩ := bnd_some h
  cases h
  have o1 := take_on ok hk h1
  have o2 := name_on o1.ok h2
  have o3 := want_on o2.ok h3
  exact ((o1.trans o2).trans o3).trans (closeP_good hL.v _ _ _ o3.ok h4)
def guardedP (L : Low) (k : Nat) (S : LS) : Res Tree := bnd (takeP S) fun _ S1 => bnd (inParP L S1) fun c S2 => bnd (blockP L S2) fun b S3 => .inr (nd k S.tl [c, b], S3)
theorem guardedP_on {L : Low} (hL : LowGood L) {k : Nat} {S S' : LS} {a : Tree} (ok : Ok S) (hk : S.kd ≠ 0) (h : guardedP L k S = .inr (a, S')) : On S S' := by
  obtain ⟨_, S1, h1, h⟩ := bnd_some h
  obtain ⟨c, S2, h2, h⟩ := bnd_some h
  obtain ⟨b, S3, h3, h⟩ := bnd_some h
  cases h
  have o1 := take_on ok hk h1
  have o2 := inParP_good hL _ _ _ o1.ok h2
  exact (o1.trans o2).trans (blockP_good hL _ _ _ o2.ok h3)
def choiceP (L : Low) (S : LS) : Res Tree := bnd (guardedP L 10 S) fun t S1 => bnd (acceptP wElse S1) fun b S2 => if b = true then bnd (blockP L S2) fun u S3 => .inr ({ t with kids := t.kids ++ [u] }, S3) else .inr (t, S2)
theorem choiceP_on {L : Low} (hL : LowGood L) {S S' : LS} {a : Tree} (ok : Ok S) (hk : S.kd ≠ 0) (h : choiceP L S = .inr (a, S')) : On S S' := by
  obtain ⟨t, S1, h1, h⟩ := bnd_some h
  obtain ⟨b, S2, h2, h⟩ := bnd_some h
  have o1 := guardedP_on hL ok hk h1
  have o2 := (accept_on o1.ok h2).1
  split at h
  · obtain ⟨u, S3, h3, h⟩ := bnd_some h
    cases h
    exact (o1.trans0 o2).trans (blockP_good hL _ _ _ o2.ok h3)
  · cases h; exact o1.trans0 o2
def returnedP (L : Low) (S : LS) : Res Tree := bnd (takeP S) fun _ S1 => bnd (acceptP tSemi S1) fun b S2 => if b = true then .inr (nd 12 S.tl [], S2) else bnd (closeP L.V S2) fun t S3 => .inr (nd 12 S.tl [t], S3)
theorem returnedP_on {L : Low} (hL : LowGood L) {S S' : LS} {a : Tree} (ok : Ok S) (hk : S.kd ≠ 0) (h : returnedP L S = .inr (a, S')) : On S S' := by
  obtain ⟨_, S1, h1, h⟩ := bnd_some h
  obtain ⟨b, S2, h2, h⟩ := bnd_some h
  have o1 := take_on ok hk h1
  have o2 := (accept_on o1.ok h2).1
  split at h
  · cases h; exact o1.trans0 o2
  · obtain ⟨t, S3, h3, h⟩ := bnd_some h
    cases h
    exact (o1.trans0 o2).trans (closeP_good hL.v _ _ _ o2.ok h3)
def endP (k : Nat) (P : LS → Res Tree) (S : LS) : Res Tree := bnd (takeP S) fun _ S1 => bnd (closeP P S1) fun t S2 => .inr (nd k S.tl [t], S2)
theorem endP_on {k : Nat} {P : LS → Res Tree} (hP : Good P) {S S' : LS} {a : Tree} (ok : Ok S) (hk : S.kd ≠ 0) (h : endP k P S = .inr (a, S')) : On S S' := by
  obtain ⟨_, S1, h1, h⟩ := bnd_some h
  obtain ⟨t, S2, h2, h⟩ := bnd_some h
  cases h
  have o1 := take_on ok hk h1
  exact o1.trans (closeP_good hP _ _ _ o1.ok h2)
def catchP (L : Low) (S : LS) : Res Tree := bnd (wantP wCatch S) fun _ S1 => bnd (wantP tOpen S1) fun _ S2 => bnd (nameP S2) fun s S3 => bnd (wantP tShut S3) fun _ S4 => bnd (blockP L S4) fun b S5 => .inr (ndT 15 s S.tl [b], S5)
theorem catchP_good {L : Low} (hL : LowGood L) : Good (catchP L) := fun S a S' ok h => by
  obtain ⟨_, S1, h1, h⟩ := bnd_some h
  obtain ⟨_, S2, h2, h⟩ := bnd_some h
  obtain ⟨s, S3, h3, h⟩ := bnd_some h
  obtain ⟨_, S4, h4, h⟩ := bnd_some h
  obtain ⟨b, S5, h5, h⟩ := bnd_some h
  cases h
  have o1 := want_on ok h1
  have o2 := want_on o1.ok h2
  have o3 := name_on o2.ok h3
  have o4 := want_on o3.ok h4
  exact (((o1.trans o2).trans o3).trans o4).trans (blockP_good hL _ _ _ o4.ok h5)
def tryP (L : Low) (S : LS) : Res Tree := bnd (takeP S) fun _ S1 => bnd (blockP L S1) fun b S2 => bnd (catchP L S2) fun c S3 => .inr (nd 14 S.tl [b, c], S3)
theorem tryP_on {L : Low} (hL : LowGood L) {S S' : LS} {a : Tree} (ok : Ok S) (hk : S.kd ≠ 0) (h : tryP L S = .inr (a, S')) : On S S' := by
  obtain ⟨_, S1, h1, h⟩ := bnd_some h
  obtain ⟨b, S2, h2, h⟩ := bnd_some h
  obtain ⟨c, S3, h3, h⟩ := bnd_some h
  cases h
  have o1 := take_on ok hk h1
  have o2 := blockP_good hL _ _ _ o1.ok h2
  exact (o1.trans o2).trans (catchP_good hL _ _ _ o2.ok h3)
def settable (k : Nat) : Bool := k == 24 || k == 42 || k == 44
def bareP (L : Low) (S : LS) : Res Tree := bnd (L.V S) fun t S1 =>
  if S1.is tEqual = true then (if settable t.kind = true then bnd (takeP S1) fun _ S2 => bnd (L.V S2) fun u S3 => bnd (wantP tSemi S3) fun _ S4 => .inr (nd 9 S.tl [t, u], S4) else .inl (1, S.tp))
  else bnd (wantP tSemi S1) fun _ S2 => .inr (nd 17 S.tl [t], S2)
theorem bareP_good {L : Low} (hL : LowGood L) : Good (bareP L) := fun S a S' ok h => by
  obtain ⟨t, S1, h1, h⟩ := bnd_some h
  have o1 := hL.v _ _ _ ok h1
  split at h
  · rename_i hi
    split at h
    · obtain ⟨_, S2, h2, h⟩ := bnd_some h
      obtain ⟨u, S3, h3, h⟩ := bnd_some h
      obtain ⟨_, S4, h4, h⟩ := bnd_some h
      cases h
      have o2 := take_on o1.ok (is_kd hi) h2
      have o3 := hL.v _ _ _ o2.ok h3
      exact ((o1.trans o2).trans o3).trans (want_on o3.ok h4)
    · cases h
  · obtain ⟨_, S2, h2, h⟩ := bnd_some h
    cases h
    exact o1.trans (want_on o1.ok h2)
def anyP (L : Low) (S : LS) : Res Tree :=
  if S.is wVar = true then variableP L S else if S.is wIf = true then choiceP L S else if S.is wWhile = true then guardedP L 11 S else if S.is wReturn = true then returnedP L S
  else if S.is wThrow = true then endP 13 L.V S else if S.is wPrint = true then endP 16 (inParP L) S else if S.is wTry = true then tryP L S else bareP L S
theorem anyP_good {L : Low} (hL : LowGood L) : Good (anyP L) := fun S a S' ok h => by
  unfold anyP at h
  split at h
  · rename_i hi; exact variableP_on hL ok (is_kd hi) h
  · split at h
    · rename_i hi; exact choiceP_on hL ok (is_kd hi) h
    · split at h
      · rename_i hi; exact guardedP_on hL ok (is_kd hi) h
      · split at h
        · rename_i hi; exact returnedP_on hL ok (is_kd hi) h
        · split at h
          · rename_i hi; exact endP_on hL.v ok (is_kd hi) h
          · split at h
            · rename_i hi; exact endP_on (inParP_good hL) ok (is_kd hi) h
            · split at h
              · rename_i hi; exact tryP_on hL ok (is_kd hi) h
              · exact bareP_good hL _ _ _ ok h
end Go.Proofs.YtndgajlidckcdaaGreatDoor

namespace Go.Proofs.YtndgajlidckcdaaGreatDoor
open Go.RowKit

/-- A node that begins where its first kid does. -/
def around (k : Nat) (t : Tree) (ts : List Tree) : Tree := nd k t.line (t :: ts)
/-- The kind of node that the sign makes that is come to (0: none of that strength). -/
def joinerP (lev : Nat) (S : LS) : Nat := match signRows.find? (fun s => s.2.2 == lev && S.is s.1) with
  | some s => s.2.1
  | none => 0
theorem joiner_kd {lev : Nat} {S : LS} (h : joinerP lev S ≠ 0) : S.kd ≠ 0 := by
  unfold joinerP at h
  split at h
  · rename_i s hs
    have := List.find?_some hs
    simp only [Bool.and_eq_true] at this
    exact is_kd this.2
  · exact absurd rfl h
def joinLoop (lev : Nat) (P : LS → Res Tree) : Nat → Tree → LS → Res Tree
  | 0, _, S => .inl (0, S.tp)
  | f + 1, t, S => if joinerP lev S = 0 then .inr (t, S) else bnd (takeP S) fun _ S1 => bnd (P S1) fun u S2 => joinLoop lev P f (around (joinerP lev S) t [u]) S2
theorem joinLoop_on {lev : Nat} {P : LS → Res Tree} (hP : Good P) : ∀ (f : Nat) (t a : Tree) (S S' : LS), Ok S → joinLoop lev P f t S = .inr (a, S') → On0 S S'
  | 0, t, a, S, S', ok, h => by cases h
  | f + 1, t, a, S, S', ok, h => by
    rw [joinLoop] at h
    split at h
    · cases h; exact On0.refl ok
    · rename_i hi
      obtain ⟨_, S1, h1, h⟩ := bnd_some h
      obtain ⟨u, S2, h2, h⟩ := bnd_some h
      have o1 := take_on ok (joiner_kd hi) h1
      have o2 := hP _ _ _ o1.ok h2
      exact (o1.trans o2).weak.trans (joinLoop_on hP f _ a S2 S' o2.ok h)
def joinP (lev : Nat) (P : LS → Res Tree) (S : LS) : Res Tree := bnd (P S) fun t S1 => joinLoop lev P 3002 t S1
theorem joinP_good {lev : Nat} {P : LS → Res Tree} (hP : Good P) : Good (joinP lev P) := fun S a S' ok h => by
  obtain ⟨t, S1, h1, h⟩ := bnd_some h
  have o1 := hP _ _ _ ok h1
  exact o1.trans0 (joinLoop_on hP _ _ _ _ _ o1.ok h)
/-- The readers of six strengths, one upon the other: the n strongest ones. -/
def jo (P : LS → Res Tree) : Nat → LS → Res Tree
  | 0 => P
  | n + 1 => joinP (6 - n) (jo P n)
theorem jo_good {P : LS → Res Tree} (hP : Good P) : ∀ n, Good (jo P n)
  | 0 => hP
  | n + 1 => joinP_good (jo_good hP n)

def memberP (L : Low) (t : Tree) (S : LS) : Res Tree := bnd (nameP S) fun s S1 => bnd (acceptP tOpen S1) fun b S2 => if b = true then bnd (argsP L S2) fun us S3 => .inr (ndT 43 s t.line (t :: us), S3) else .inr (ndT 42 s t.line [t], S2)
theorem memberP_on {L : Low} (hL : LowGood L) {t a : Tree} {S S' : LS} (ok : Ok S) (h : memberP L t S = .inr (a, S')) : On S S' := by
  obtain ⟨s, S1, h1, h⟩ := bnd_some h
  obtain ⟨b, S2, h2, h⟩ := bnd_some h
  have o1 := name_on ok h1
  have o2 := (accept_on o1.ok h2).1
  split at h
  · obtain ⟨us, S3, h3, h⟩ := bnd_some h
    cases h
    exact (o1.trans0 o2).trans (listedP_good hL.v _ _ _ o2.ok h3)
  · cases h; exact o1.trans0 o2
def sufLoop (L : Low) : Nat → Tree → LS → Res Tree
  | 0, _, S => .inl (0, S.tp)
  | f + 1, t, S => bnd (acceptP tDot S) fun b S1 => if b = true then bnd (memberP L t S1) fun u S2 => sufLoop L f u S2
    else bnd (acceptP tSquare S1) fun b S2 => if b = true then bnd (L.V S2) fun u S3 => bnd (wantP tSquared S3) fun _ S4 => sufLoop L f (around 44 t [u]) S4
    else bnd (acceptP tOpen S2) fun b S3 => if b = true then bnd (argsP L S3) fun us S4 => sufLoop L f (around 45 t us) S4 else .inr (t, S3)
theorem sufLoop_on {L : Low} (hL : LowGood L) : ∀ (f : Nat) (t a : Tree) (S S' : LS), Ok S → sufLoop L f t S = .inr (a, S') → On0 S S'
  | 0, t, a, S, S', ok, h => by cases h
  | f + 1, t, a, S, S', ok, h => by
    rw [sufLoop] at h
    obtain ⟨b1, S1, h1, h⟩ := bnd_some h
    have o1 := (accept_on ok h1).1
    split at h
    · obtain ⟨u, S2, h2, h⟩ := bnd_some h
      have o2 := memberP_on hL o1.ok h2
      exact (o1.trans o2.weak).trans (sufLoop_on hL f _ a S2 S' o2.ok h)
    · obtain ⟨b2, S2, h2, h⟩ := bnd_some h
      have o2 := (accept_on o1.ok h2).1
      split at h
      · obtain ⟨u, S3, h3, h⟩ := bnd_some h
        obtain ⟨_, S4, h4, h⟩ := bnd_some h
        have o3 := hL.v _ _ _ o2.ok h3
        have o4 := want_on o3.ok h4
        exact (((o1.trans o2).trans o3.weak).trans o4.weak).trans (sufLoop_on hL f _ a S4 S' o4.ok h)
      · obtain ⟨b3, S3, h3, h⟩ := bnd_some h
        have o3 := (accept_on o2.ok h3).1
        split at h
        · obtain ⟨us, S4, h4, h⟩ := bnd_some h
          have o4 := listedP_good hL.v _ _ _ o3.ok h4
          exact (((o1.trans o2).trans o3).trans o4.weak).trans (sufLoop_on hL f _ a S4 S' o4.ok h)
        · cases h; exact (o1.trans o2).trans o3
def constP (S : LS) : Nat := if S.is wTrue = true then 20 else if S.is wFalse = true then 21 else if S.is wNil = true then 22 else if S.is wThis = true then 23 else 0
theorem const_kd {S : LS} (h : constP S ≠ 0) : S.kd ≠ 0 := by
  unfold constP at h
  split at h
  · rename_i hi; exact is_kd hi
  · split at h
    · rename_i hi; exact is_kd hi
    · split at h
      · rename_i hi; exact is_kd hi
      · split at h
        · rename_i hi; exact is_kd hi
        · exact absurd rfl h
def namedP (L : Low) (k ln : Nat) (S : LS) : Res Tree := bnd (nameP S) fun s S1 => bnd (wantP tOpen S1) fun _ S2 => bnd (argsP L S2) fun us S3 => .inr (ndT k s ln us, S3)
theorem namedP_on {L : Low} (hL : LowGood L) {k ln : Nat} {S S' : LS} {a : Tree} (ok : Ok S) (h : namedP L k ln S = .inr (a, S')) : On S S' := by
  obtain ⟨s, S1, h1, h⟩ := bnd_some h
  obtain ⟨_, S2, h2, h⟩ := bnd_some h
  obtain ⟨us, S3, h3, h⟩ := bnd_some h
  cases h
  have o1 := name_on ok h1
  have o2 := want_on o1.ok h2
  exact (o1.trans o2).trans (listedP_good hL.v _ _ _ o2.ok h3)
def markedP (L : Low) (S : LS) : Res Tree :=
  if S.is tOpen = true then inParP L S
  else if S.is tSquare = true then bnd (takeP S) fun _ S1 => bnd (listedP tSquared L.V S1) fun us S2 => .inr (nd 27 S.tl us, S2)
  else if S.is wFn = true then lambdaP L S
  else if S.is wNew = true then bnd (takeP S) fun _ S1 => namedP L 25 S.tl S1
  else if S.is wSuper = true then bnd (takeP S) fun _ S1 => bnd (wantP tDot S1) fun _ S2 => namedP L 26 S.tl S2
  else if S.is wInput = true then bnd (takeP S) fun _ S1 => bnd (wantP tOpen S1) fun _ S2 => bnd (wantP tShut S2) fun _ S3 => .inr (nd 29 S.tl [], S3)
  else if S.is wLen = true then bnd (takeP S) fun _ S1 => bnd (inParP L S1) fun t S2 => .inr (nd 30 S.tl [t], S2)
  else .inl (3, S.tp)
theorem markedP_good {L : Low} (hL : LowGood L) : Good (markedP L) := fun S a S' ok h => by
  unfold markedP at h
  split at h
  · exact inParP_good hL _ _ _ ok h
  · split at h
    · rename_i hi
      obtain ⟨_, S1, h1, h⟩ := bnd_some h
      obtain ⟨us, S2, h2, h⟩ := bnd_some h
      cases h
      have o1 := take_on ok (is_kd hi) h1
      exact o1.trans (listedP_good hL.v _ _ _ o1.ok h2)
    · split at h
      · rename_i hi; exact lambdaP_on hL ok (is_kd hi) h
      · split at h
        · rename_i hi
          obtain ⟨_, S1, h1, h⟩ := bnd_some h
          have o1 := take_on ok (is_kd hi) h1
          exact o1.trans (namedP_on hL o1.ok h)
        · split at h
          · rename_i hi
            obtain ⟨_, S1, h1, h⟩ := bnd_some h
            obtain ⟨_, S2, h2, h⟩ := bnd_some h
            have o1 := take_on ok (is_kd hi) h1
            have o2 := want_on o1.ok h2
            exact (o1.trans o2).trans (namedP_on hL o2.ok h)
          · split at h
            · rename_i hi
              obtain ⟨_, S1, h1, h⟩ := bnd_some h
              obtain ⟨_, S2, h2, h⟩ := bnd_some h
              obtain ⟨_, S3, h3, h⟩ := bnd_some h
              cases h
              have o1 := take_on ok (is_kd hi) h1
              have o2 := want_on o1.ok h2
              exact (o1.trans o2).trans (want_on o2.ok h3)
            · split at h
              · rename_i hi
                obtain ⟨_, S1, h1, h⟩ := bnd_some h
                obtain ⟨t, S2, h2, h⟩ := bnd_some h
                cases h
                have o1 := take_on ok (is_kd hi) h1
                exact o1.trans (inParP_good hL _ _ _ o1.ok h2)
              · cases h
def simpleP (L : Low) (S : LS) : Res Tree := if S.kd = 2 then leafP 24 S else if S.kd = 3 then leafP 18 S else if S.kd = 4 then leafP 19 S else if constP S = 0 then markedP L S else leafP (constP S) S
theorem leafP_on {k : Nat} {S S' : LS} {a : Tree} (ok : Ok S) (hk : S.kd ≠ 0) (h : leafP k S = .inr (a, S')) : On S S' := by
  obtain ⟨_, S1, h1, h⟩ := bnd_some h
  cases h
  exact take_on ok hk h1
theorem simpleP_good {L : Low} (hL : LowGood L) : Good (simpleP L) := fun S a S' ok h => by
  unfold simpleP at h
  split at h
  · exact leafP_on ok (by omega) h
  · split at h
    · exact leafP_on ok (by omega) h
    · split at h
      · exact leafP_on ok (by omega) h
      · split at h
        · exact markedP_good hL _ _ _ ok h
        · rename_i hc; exact leafP_on ok (const_kd hc) h
def suffixedP (L : Low) (S : LS) : Res Tree := bnd (simpleP L S) fun t S1 => sufLoop L 3002 t S1
theorem suffixedP_good {L : Low} (hL : LowGood L) : Good (suffixedP L) := fun S a S' ok h => by
  obtain ⟨t, S1, h1, h⟩ := bnd_some h
  have o1 := simpleP_good hL _ _ _ ok h1
  exact o1.trans0 (sufLoop_on hL _ _ _ _ _ o1.ok h)
def signedP (L : Low) (k : Nat) (S : LS) : Res Tree := bnd (takeP S) fun _ S1 => bnd (L.N S1) fun t S2 => .inr (nd k S.tl [t], S2)
theorem signedP_on {L : Low} (hL : LowGood L) {k : Nat} {S S' : LS} {a : Tree} (ok : Ok S) (hk : S.kd ≠ 0) (h : signedP L k S = .inr (a, S')) : On S S' := by
  obtain ⟨_, S1, h1, h⟩ := bnd_some h
  obtain ⟨t, S2, h2, h⟩ := bnd_some h
  cases h
  have o1 := take_on ok hk h1
  exact o1.trans (hL.n _ _ _ o1.ok h2)
def prefixedP (L : Low) (S : LS) : Res Tree := if S.is tNot = true then signedP L 41 S else if S.is tMinus = true then signedP L 40 S else suffixedP L S
theorem prefixedP_good {L : Low} (hL : LowGood L) : Good (prefixedP L) := fun S a S' ok h => by
  unfold prefixedP at h
  split at h
  · rename_i hi; exact signedP_on hL ok (is_kd hi) h
  · split at h
    · rename_i hi; exact signedP_on hL ok (is_kd hi) h
    · exact suffixedP_good hL _ _ _ ok h

/-- One deeper. -/
def deepP (P : LS → Res Tree) (S : LS) : Res Tree := if S.dp = 25 then .inl (4, S.tp) else bnd (P { S with dp := S.dp + 1 }) fun t S1 => .inr (t, { S1 with dp := S1.dp - 1 })
theorem deepP_good {P : LS → Res Tree} (hP : Good P) : Good (deepP P) := fun S a S' ok h => by
  unfold deepP at h
  split at h
  · cases h
  · obtain ⟨t, S1, h1, h⟩ := bnd_some h
    cases h
    have o1 := hP _ _ _ (show Ok { S with dp := S.dp + 1 } from ⟨⟨ok.fit.size, ok.fit.pl, ok.fit.ln⟩, ok.tp, ok.tl, ok.now⟩) h1
    refine ⟨⟨⟨o1.ok.fit.size, o1.ok.fit.pl, o1.ok.fit.ln⟩, o1.ok.tp, o1.ok.tl, o1.ok.now⟩, ⟨o1.same.src, ?_, o1.same.jn⟩, o1.tp⟩
    show S1.dp - 1 = S.dp
    have := o1.same.dp
    have h2 : S1.dp = S.dp + 1 := this
    omega

/-- What reads at a depth of which so many are left. -/
def lower : Nat → Low
  | 0 => ⟨fun S => .inl (4, S.tp), fun S => .inl (4, S.tp), fun S => .inl (4, S.tp)⟩
  | d + 1 => ⟨deepP (jo (prefixedP (lower d)) 6), deepP (anyP (lower d)), deepP (prefixedP (lower d))⟩
theorem lower_good : ∀ d, LowGood (lower d)
  | 0 => ⟨fun _ _ _ _ h => (by cases h), fun _ _ _ _ h => (by cases h), fun _ _ _ _ h => (by cases h)⟩
  | d + 1 => ⟨deepP_good (jo_good (prefixedP_good (lower_good d)) 6), deepP_good (anyP_good (lower_good d)), deepP_good (prefixedP_good (lower_good d))⟩
end Go.Proofs.YtndgajlidckcdaaGreatDoor

namespace Go.Proofs.YtndgajlidckcdaaGreatDoor
open Go.RowKit
attribute [local go_sem ↓] Go.wp_at_zero Go.wp_at_succ

set_option maxRecDepth 100000 in
set_option maxHeartbeats 8000000 in
theorem method_any {w : World} {r D : Nat} {S : LS} (cx : Cx w r S) (hD : S.dp = D) {L : Low} (hL : LowC r D L) :
    Calls Tryz.prog 185 #[.pointer (some ⟨r, 0, none⟩)] w fun e w' => Ret (methodP L S) r (vNode w.heap.size) e w' ∧ Ext r w w' := by
  obtain ⟨i0, hi, hz0, hz1, hz2⟩ := info_parts infoNode
  have hr0 := cx.jc.lt
  have HL := hide hL
  clear hL
  have HX0 : Hid (Ext r w w) := Ext.refl r w
  have hd0 := hD
  have HC0 := hide cx
  clear cx
  go_enter Tryz.func185, Tryz.ntmps185
  go_wp2_with fail
  refine (start_calls (unhide HC0) 4).mono ?_
  rintro e w1 ⟨v, rfl, ⟨rfl, hu⟩, cx1, hx⟩
  have HU1 := hide hu
  have HX1 := hide ((unhide HX0).trans hx)
  have HC1 := hide cx1
  have hd1 := hd0
  clear hu hx cx1 HC0 HX0
  go_wp2_with fail
  refine Ret.call (name_any (unhide HC1)) ?_ ?_
  · intro f wz hf hx
    exact ⟨rfl, Ret.inl (bnd_inl hf), (unhide HX1).trans hx⟩
  intro s2 S2 v w2 hf hv cx2 hx
  obtain rfl : v = .string s2 := hv
  have hon2 := name_on (unhide HC1).ok hf
  have hd2 : S2.dp = D := hon2.same.dp.trans hd1
  have HP2 := hide (show (methodP L S) = _ from bnd_inr hf)
  have HU2 := hide ((unhide HU1).ext hx fun j hj => by omega)
  have HX2 := hide ((unhide HX1).trans hx)
  have HC2 := hide cx2
  clear hf hx cx2 HC1 HX1 hd1 HU1
  obtain ⟨t0, hb⟩ := (unhide HU2).cells
  have dq : w2.cell? ⟨w.heap.size, 1, none⟩ = some (.string noText) := hcell hb 1
  have gq := hfroz hb 1
  clear hb
  have HU3 := hide ((unhide HU2).put 1 (.string s2) (tx' := s2) rfl)
  have HX3 := hide ((unhide HX2).setNew ⟨w.heap.size, 1, none⟩ (Nat.le_refl _) (.string s2))
  have HC3 := hide ((unhide HC2).setCell hr0 1 (.string s2))
  have hd3 := hd2
  clear HU2 HX2 HC2
  go_wp2_with fail
  refine Ret.callX (X := Ext r w) (function_any (unhide HC3) hd3 (unhide HL) (unhide HX3) hr0 (unhide HU3) (by simp)) ?_ ?_
  · intro f wz hf hx
    exact ⟨rfl, Ret.inl ((unhide HP2).trans (bnd_inl hf)), hx⟩
  intro pb S9 v w9 hf hv cx9 hx9
  obtain ⟨rfl, ks, vs, hu9⟩ := hv
  have HP9 := hide ((unhide HP2).trans (bnd_inr hf))
  clear hf
  go_wp2_with fail
  go_ret
  exact ⟨Ret.inr (unhide HP9) hu9.node cx9, hx9⟩

set_option maxRecDepth 100000 in
set_option maxHeartbeats 8000000 in
theorem fn_any {w : World} {r D : Nat} {S : LS} (cx : Cx w r S) (hD : S.dp = D) {L : Low} (hL : LowC r D L) (hk : S.kd ≠ 0) :
    Calls Tryz.prog 124 #[.pointer (some ⟨r, 0, none⟩)] w fun e w' => Ret (fnP L S) r (vNode w.heap.size) e w' ∧ Ext r w w' := by
  obtain ⟨i0, hi, hz0, hz1, hz2⟩ := info_parts infoNode
  have hr0 := cx.jc.lt
  have HL := hide hL
  clear hL
  have HX0 : Hid (Ext r w w) := Ext.refl r w
  have hd0 := hD
  have HC0 := hide cx
  clear cx
  go_enter Tryz.func124, Tryz.ntmps124
  go_wp2_with fail
  refine Ret.call (taken_any (unhide HC0) 5) ?_ ?_
  · intro f wz hf hx
    exact ⟨rfl, Ret.inl (bnd_inl hf), (unhide HX0).trans hx⟩
  intro a1 S1 v w1 hf hv cx1 hx
  obtain ⟨rfl, hu⟩ := hv
  have HU1 := hide hu
  have hon1 := take_on (unhide HC0).ok hk hf
  have hd1 : S1.dp = D := hon1.same.dp.trans hd0
  have HP1 := hide (show (fnP L S) = _ from bnd_inr hf)
  have HX1 := hide ((unhide HX0).trans hx)
  have HC1 := hide cx1
  clear hf hx cx1 HC0 HX0 hd0 hu
  go_wp2_with fail
  refine Ret.call (name_any (unhide HC1)) ?_ ?_
  · intro f wz hf hx
    exact ⟨rfl, Ret.inl ((unhide HP1).trans (bnd_inl hf)), (unhide HX1).trans hx⟩
  intro s2 S2 v w2 hf hv cx2 hx
  obtain rfl : v = .string s2 := hv
  have hon2 := name_on (unhide HC1).ok hf
  have hd2 : S2.dp = D := hon2.same.dp.trans hd1
  have HP2 := hide ((unhide HP1).trans (bnd_inr hf))
  have HU2 := hide ((unhide HU1).ext hx fun j hj => by omega)
  have HX2 := hide ((unhide HX1).trans hx)
  have HC2 := hide cx2
  clear hf hx cx2 HC1 HX1 hd1 HP1 HU1
  obtain ⟨t0, hb⟩ := (unhide HU2).cells
  have dq : w2.cell? ⟨w.heap.size, 1, none⟩ = some (.string noText) := hcell hb 1
  have gq := hfroz hb 1
  clear hb
  have HU3 := hide ((unhide HU2).put 1 (.string s2) (tx' := s2) rfl)
  have HX3 := hide ((unhide HX2).setNew ⟨w.heap.size, 1, none⟩ (Nat.le_refl _) (.string s2))
  have HC3 := hide ((unhide HC2).setCell hr0 1 (.string s2))
  have hd3 := hd2
  clear HU2 HX2 HC2
  go_wp2_with fail
  refine Ret.callX (X := Ext r w) (function_any (unhide HC3) hd3 (unhide HL) (unhide HX3) hr0 (unhide HU3) (by simp)) ?_ ?_
  · intro f wz hf hx
    exact ⟨rfl, Ret.inl ((unhide HP2).trans (bnd_inl hf)), hx⟩
  intro pb S9 v w9 hf hv cx9 hx9
  obtain ⟨rfl, ks, vs, hu9⟩ := hv
  have HP9 := hide ((unhide HP2).trans (bnd_inr hf))
  clear hf
  go_wp2_with fail
  go_ret
  exact ⟨Ret.inr (unhide HP9) hu9.node cx9, hx9⟩

set_option maxRecDepth 100000 in
set_option maxHeartbeats 8000000 in
theorem lambda_any {w : World} {r D : Nat} {S : LS} (cx : Cx w r S) (hD : S.dp = D) {L : Low} (hL : LowC r D L) (hk : S.kd ≠ 0) :
    Calls Tryz.prog 240 #[.pointer (some ⟨r, 0, none⟩)] w fun e w' => Ret (lambdaP L S) r (vNode w.heap.size) e w' ∧ Ext r w w' := by
  obtain ⟨i0, hi, hz0, hz1, hz2⟩ := info_parts infoNode
  have hr0 := cx.jc.lt
  have HL := hide hL
  clear hL
  have HX0 : Hid (Ext r w w) := Ext.refl r w
  have hd0 := hD
  have HC0 := hide cx
  clear cx
  go_enter Tryz.func240, Tryz.ntmps240
  go_wp2_with fail
  refine Ret.call (taken_any (unhide HC0) 28) ?_ ?_
  · intro f wz hf hx
    exact ⟨rfl, Ret.inl (bnd_inl hf), (unhide HX0).trans hx⟩
  intro a1 S1 v w1 hf hv cx1 hx
  obtain ⟨rfl, hu⟩ := hv
  have HU1 := hide hu
  have hon1 := take_on (unhide HC0).ok hk hf
  have hd1 : S1.dp = D := hon1.same.dp.trans hd0
  have HP1 := hide (show (lambdaP L S) = _ from bnd_inr hf)
  have HX1 := hide ((unhide HX0).trans hx)
  have HC1 := hide cx1
  clear hf hx cx1 HC0 HX0 hd0 hu
  go_wp2_with fail
  refine Ret.callX (X := Ext r w) (function_any (unhide HC1) hd1 (unhide HL) (unhide HX1) hr0 (unhide HU1) (by simp)) ?_ ?_
  · intro f wz hf hx
    exact ⟨rfl, Ret.inl ((unhide HP1).trans (bnd_inl hf)), hx⟩
  intro pb S9 v w9 hf hv cx9 hx9
  obtain ⟨rfl, ks, vs, hu9⟩ := hv
  have HP9 := hide ((unhide HP1).trans (bnd_inr hf))
  clear hf
  go_wp2_with fail
  go_ret
  exact ⟨Ret.inr (unhide HP9) hu9.node cx9, hx9⟩

end Go.Proofs.YtndgajlidckcdaaGreatDoor
