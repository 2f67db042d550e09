/-
  Statements that end with a value and a semicolon.
-/
import Derived.Test.YtndgajlidckcdaaGreatDoorB06
import Derived.Deep.DrawnRows
import Derived.Deep.RegionLaw
namespace Go.Proofs.YtndgajlidckcdaaGreatDoor
open Go.RowKit
attribute [local go_sem ↓] Go.wp_at_zero Go.wp_at_succ

/-- A part is read by a function that was handed over: what a call of it comes to. -/
def Reads (r : Nat) (G : FuncId) (gargs : Array Value) (P : LS → Res Tree) (S : LS) : Prop :=
  ∀ w, Cx w r S → Calls Tryz.prog G gargs w fun e w' => Ret (P S) r (vNode w.heap.size) e w' ∧ Ext r w w'

def vKid (lo b k : Nat) (tx un : ByteArray) (n : Int) (ln : Nat) (ts : List Tree) (v : Value) (w' : World) : Prop := v = .pointer (some ⟨b, 0, none⟩) ∧ ∃ ks vs, Und (fun j => lo ≤ j) w' b k tx un n ln ts ks vs

theorem Und.drew {A : Nat → Prop} {w : World} {b k : Nat} {tx un : ByteArray} {n : Int} {ln : Nat} {ts : List Tree} {ks : Value} {vs : List Value} (h : Und A w b k tx un n ln ts ks vs) : Und A w.drew b k tx un n ln ts ks vs :=
  ⟨h.at', h.cells, h.row, h.len, fun i hi => NodeAt.keep (w := w) (w' := w.drew) (fun _ h => h) (fun _ _ _ => rfl) _ _ (h.kids i hi)⟩
theorem Cx.drew {w : World} {r : Nat} {S : LS} (h : Cx w r S) : Cx w.drew r S := h.ext (Ext.refl r w).drew h.rd.drew h.ok rfl

def semi : ByteArray := ⟨#[59]⟩
def closedP (P : LS → Res Tree) (S : LS) : Res Tree := bnd (P S) fun t S1 => bnd (wantP semi S1) fun _ S2 => .inr (t, S2)

set_option maxRecDepth 100000 in
set_option maxHeartbeats 4000000 in
theorem closed_any {w0 w : World} {r : Nat} {S : LS} (cx : Cx w r S) (hx0 : Ext r w0 w) (hr0 : r + 18 < w0.heap.size) {b k : Nat} {tx un : ByteArray} {n : Int} {ln : Nat} {ts : List Tree} {ks : Value} {vs : List Value} (hu : Und (fun j => w0.heap.size ≤ j) w b k tx un n ln ts ks vs) (hts : ts.length ≤ 5000)
    (G : FuncId) (pre : Array Value) (P : LS → Res Tree) (hP : Reads r G pre P S) (hent : ∀ w : World, Sem.run Tryz.prog (callFunc G pre) w = .ok (.enter G pre) w) :
    Calls Tryz.prog 221 #[.pointer (some ⟨r, 0, none⟩), .pointer (some ⟨b, 0, none⟩), .func (.func G) pre #[]] w fun e w' =>
      Ret (closedP P S) r (fun t => vKid w0.heap.size b k tx un n ln (ts ++ [t])) e w' ∧ Ext r w0 w' := by
  obtain ⟨i0, hi, hz0, hz1, hz2⟩ := info_parts infoNode
  obtain ⟨t0, hb⟩ := hu.cells
  have d5 : w.cell? ⟨b, 5, none⟩ = some ks := hcell hb 5
  have g5 := hfroz hb 5
  have hvs : vs.length ≤ 5000 := by rw [hu.len]; exact hts
  have HU := hide hu
  have HP := hide hP
  have HC := hide cx
  have HX0 := hide hx0
  clear hu hP cx hx0 hb
  go_enter Tryz.func221, Tryz.ntmps221
  go_wp2_with fail
  go_region_law ((first
    | (refine step_append_lies _ (by rfl) _ _ _ (by rfl) 0 22 i0 (.pointer none) 1 8 Tryz.underlying51 hi hz0 hz1 hz2 rfl (by decide) ks vs.length vs (by rfl) ((unhide HO2).alloc _) ⟨w2.heap.size, 0, none⟩ 1 1 [.pointer (some ⟨kb, 0, none⟩)] (by rfl) rfl (cell_one_new _ _ _) (fun u hu => by simp at hu; subst hu; rfl) (by decide) (by unfold maxLen; omega) (by omega) (Nat.zero_le _) (w2.heap.size + 1) (by simp) ?_; intro g cap w3 hown hgrow hat hlt; obtain ⟨e6, f6, HU3, HX3, HC3⟩ := kid_more rfl (unhide HU).drew (unhide HU2) hr0 (unhide HC2) (unhide HX2) (unhide HV2) _ hown hgrow hat; clear hown hgrow hat hlt)
    | (refine step_call rfl (by simp [execOp, resolve, invoke, Act.eval, hent, go_sem]) (Ret.call (unhide HP _ ((unhide HC).drew)) (fun f w2 hf hx => ⟨rfl, Ret.inl (bnd_inl hf), ((unhide HX0).drew).trans hx⟩) ?_); intro t S1 v w2 hf hv cx1 hx; obtain ⟨kb, rfl⟩ := vNode_ptr hv; obtain ⟨e5, e5a, HO2, HU2⟩ := kid_call (unhide HU).drew hx (by omega); have HV2 := hide hv; have HC2 := hide cx1; have HX2 := hide (((unhide HX0).drew).trans hx); have HF := hide hf; clear hv cx1 hx hf)))
  all_goals
    go_wp2_with fail
    refine Ret.callX (X := fun w' => Ext r w0 w' ∧ Ext r _ w') ((want_any (unhide HC3) semi).mono fun e w' ⟨h1, h2⟩ => ⟨h1, (unhide HX3).trans h2, h2⟩) ?_ ?_
    · intro f w4 hf hx
      exact ⟨rfl, Ret.inl ((bnd_inr (unhide HF)).trans (bnd_inl hf)), hx.1⟩
    · intro a S2 v w4 hf hv cx4 ⟨hx, hx4⟩
      have HP2 : Hid (closedP P S = .inr (t, S2)) := (bnd_inr (unhide HF)).trans (bnd_inr hf)
      obtain rfl : v = .tuple #[] := hv
      clear hf e5 e5a e6 f6 d5 g5
      go_wp2_with fail
      go_ret
      exact ⟨Ret.inr (unhide HP2) ⟨rfl, _, _, (unhide HU3).ext hx4 fun j hj => by omega⟩ cx4, hx⟩
end Go.Proofs.YtndgajlidckcdaaGreatDoor
