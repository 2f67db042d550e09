/-
  A region that draws its order, and writes at its end what it read: what is read may be taken first, if it is as it was until an operation has come up that waits for it.
  A class's methods are put together.
  A program's classes and functions are put together.
  A node and its place: what stays.
-/
import Derived.Test.YtjcoobkpmpjpbaaGreatDoorM23
import Derived.Deep.RegionHeld
namespace Go.Proofs.YtjcoobkpmpjpbaaGreatDoor
open Go Go.RowKit

section
variable {P : Program} {ops : Array Oper} {Q : Exit → Act → World → Prop} {md : Region.Mode} {S : World → Prop} {c : Nat}
/-- Whatever comes up next, and so on; S holds as long as operation c has not come up. -/
def tillC (P : Program) (md : Region.Mode) (ops : Array Oper) (Q : Exit → Act → World → Prop) (S : World → Prop) (c : Nat) : Nat → Array Bool → Act → World → Prop
  | 0, l, a, w => Region.ready md ops l = [] ∧ Q .normal a w
  | n + 1, l, a, w => (Region.ready md ops l = [] → Q .normal a w) ∧ ∀ j, j ∈ Region.ready md ops l → wpOp P ops Q j (fun a' w' => ((l.setIfInBounds j true).getD c true = false → S w') ∧ tillC P md ops Q S c n (l.setIfInBounds j true) a' w') a w
theorem tillC_any : ∀ (n : Nat) {l : Array Bool} {a : Act} {w : World}, tillC P md ops Q S c n l a w → wpAny P md ops Q n l a w
  | 0, _, _, _, h => h
  | n + 1, _, _, _, h => ⟨h.1, fun j hj => wpOp_mono (fun _ _ k => tillC_any n k.2) (h.2 j hj)⟩
/-- None of cs has come up, nor can one come up ahead of i. -/
def waitB (md : Region.Mode) (ops : Array Oper) (l : Array Bool) (i : Nat) (cs : List Nat) : Bool :=
  cs.all fun c => !(l.getD c true) && !(c == i) && (match ops[c]? with | some o => o.after.any fun e => Region.binds md e && (e.on == i || cs.contains e.on) | none => false)
theorem waitB_at {l : Array Bool} {i : Nat} {cs : List Nat} (h : waitB md ops l i cs = true) {k : Nat} (hk : k ∈ cs) : l.getD k true = false ∧ k ≠ i ∧ ∃ o, ops[k]? = some o ∧ ∃ e ∈ o.after, Region.binds md e = true ∧ (e.on = i ∨ e.on ∈ cs) := by
  have := List.all_eq_true.1 h k hk
  simp only [Bool.and_eq_true, Bool.not_eq_true', beq_eq_false_iff_ne, ne_eq] at this
  obtain ⟨⟨h1, h2⟩, h3⟩ := this
  refine ⟨h1, h2, ?_⟩
  cases ho : ops[k]? with
  | none => rw [ho] at h3; cases h3
  | some o =>
    rw [ho] at h3
    obtain ⟨e, he, hq⟩ := Array.any_eq_true'.1 h3
    simp only [Bool.and_eq_true, Bool.or_eq_true, beq_iff_eq, List.contains_iff_mem] at hq
    exact ⟨o, rfl, e, he, hq.1, hq.2⟩
theorem getD_true_false {l : Array Bool} {k : Nat} (h : l.getD k true = false) : l.getD k false = false := by
  rcases Nat.lt_or_ge k l.size with h' | h'
  · simp [h'] at h ⊢; exact h
  · simp [Array.getElem?_eq_none h'] at h
theorem waitB_step {l : Array Bool} {i j : Nat} {cs : List Nat} (h : waitB md ops l i cs = true) (hi : l.getD i true = false) (hj : j ∈ Region.ready md ops l) : j ∉ cs := by
  intro hm
  obtain ⟨_, _, o, ho, e, he, hb, hor⟩ := waitB_at h hm
  obtain ⟨_, o', ho', hall⟩ := mem_ready.1 hj
  rw [ho] at ho'
  cases ho'
  have h1 := hall e he hb
  rcases hor with q | q
  · rw [q, getD_true_false hi] at h1; cases h1
  · rw [getD_true_false (waitB_at h q).1] at h1; cases h1
theorem waitB_set {l : Array Bool} {i j : Nat} {cs : List Nat} (h : waitB md ops l i cs = true) (hj : j ∉ cs) : waitB md ops (l.setIfInBounds j true) i cs = true := by
  apply List.all_eq_true.2
  intro k hk
  have := List.all_eq_true.1 h k hk
  rw [getD_set_ne true (show j ≠ k from fun e => hj (by rw [e]; exact hk))]
  exact this
theorem tillC_first {i : Nat} {oi : Oper} {v : Value} {cs : List Nat} (hi : ops[i]? = some oi) (hsel : ∀ (j : Nat) (o : Oper) ks b, ops[j]? = some o → o.op ≠ .select ks b) (hc : c ∈ cs)
    (hQ : ∀ p a w, Q (.panic p) (a.put oi.dst v) w → Q (.panic p) a w) : ∀ (n : Nat) {l : Array Bool} {a : Act} {w : World},
      (∀ j oj, ops[j]? = some oj → j ≠ i → l.getD j true = false → (∀ e ∈ oj.after, Region.binds md e = true → e.on ≠ i) → oi.apart ops oj = true) →
      waitB md ops l i cs = true → i ∈ Region.ready md ops l → YieldsIf P ops S oi v a → S w →
      tillC P md ops Q S c n (l.setIfInBounds i true) (a.put oi.dst v) w → tillC P md ops Q S c (n + 1) l a w := by
  intro n
  induction n with
  | zero =>
    intro l a w _ hw hr hy hS H
    refine ⟨fun h0 => (by rw [h0] at hr; cases hr), fun j hj => ?_⟩
    by_cases e : j = i
    · subst e; exact hy.wpOp hi hS ⟨fun _ => hS, H⟩
    · have := ready_mono hj e
      rw [H.1] at this
      cases this
  | succ n ih =>
    intro l a w hfree hw hr hy hS H
    refine ⟨fun h0 => (by rw [h0] at hr; cases hr), fun j hj => ?_⟩
    by_cases e : j = i
    · subst e; exact hy.wpOp hi hS ⟨fun _ => hS, H⟩
    · have hil := (mem_ready.1 hr).1
      have hjc := waitB_step hw hil hj
      have h1 := H.2 j (ready_mono hj e)
      obtain ⟨hjun, oj, hoj, hall⟩ := mem_ready.1 hj
      have hnot : ∀ e ∈ oj.after, Region.binds md e = true → e.on ≠ i := fun e he hb heq => by
        have q := hall e he hb
        rw [heq, getD_true_false hil] at q
        cases q
      have h2 := wpOp_putIf hoj (hfree j oj hoj e hjun hnot) (fun ks b => hsel i oi ks b hi) (fun ks b => hsel j oj ks b hoj) hQ hy h1
      have hfree' : ∀ k ok, ops[k]? = some ok → k ≠ i → (l.setIfInBounds j true).getD k true = false → (∀ e ∈ ok.after, Region.binds md e = true → e.on ≠ i) → oi.apart ops ok = true := fun k ok hk hki hun hno => by
        refine hfree k ok hk hki ?_ hno
        by_cases q : j = k
        · subst q; exact hjun
        · rw [getD_set_ne true q] at hun; exact hun
      have hcj : j ≠ c := fun q => hjc (q ▸ hc)
      have hci : i ≠ c := fun q => (waitB_at hw hc).2.1 q.symm
      have hcf : (((l.setIfInBounds i true).setIfInBounds j true).getD c true) = false := by
        rw [getD_set_ne true hcj, getD_set_ne true hci]
        exact (waitB_at hw hc).1
      refine wpOp_mono (fun a' w' h3 => ⟨fun _ => h3.2.1 hcf, ih hfree' (waitB_set hw hjc) (ready_mono hr (Ne.symm e)) h3.1 (h3.2.1 hcf) ?_⟩) h2
      rw [Array.setIfInBounds_comm _ _ e]
      exact h3.2.2
/-- Number i is taken first. -/
theorem tillC_take {i : Nat} {oi : Oper} {v : Value} {cs : List Nat} {n : Nat} {l : Array Bool} {a : Act} {w : World} (hi : ops[i]? = some oi) (hs : Region.noSelect ops = true) (hf : Region.free md ops l i = true) (hr : (Region.ready md ops l).contains i = true)
    (hc : cs.contains c = true) (hw : waitB md ops l i cs = true) (hQ : ∀ p a w, Q (.panic p) (a.put oi.dst v) w → Q (.panic p) a w) (hy : YieldsIf P ops S oi v a) (hS : S w)
    (h : tillC P md ops Q S c n (l.setIfInBounds i true) (a.put oi.dst v) w) : tillC P md ops Q S c (n + 1) l a w :=
  tillC_first hi (Region.noSelect_spec hs) (by simpa using hc) hQ n (Region.free_spec hi hf) hw (by simpa using hr) hy hS h
theorem tillC_free {i : Nat} {oi : Oper} {v : Value} (hi : ops[i]? = some oi) (hsel : ∀ (j : Nat) (o : Oper) ks b, ops[j]? = some o → o.op ≠ .select ks b) (hic : i ≠ c)
    (hQ : ∀ p a w, Q (.panic p) (a.put oi.dst v) w → Q (.panic p) a w) : ∀ (n : Nat) {l : Array Bool} {a : Act} {w : World},
      (∀ j oj, ops[j]? = some oj → j ≠ i → l.getD j true = false → (∀ e ∈ oj.after, Region.binds md e = true → e.on ≠ i) → oi.apart ops oj = true) →
      i ∈ Region.ready md ops l → YieldsIf P ops (fun _ => True) oi v a → (l.getD c true = false → S w) →
      tillC P md ops Q S c n (l.setIfInBounds i true) (a.put oi.dst v) w → tillC P md ops Q S c (n + 1) l a w := by
  intro n
  induction n with
  | zero =>
    intro l a w _ hr hy hS H
    refine ⟨fun h0 => (by rw [h0] at hr; cases hr), fun j hj => ?_⟩
    by_cases e : j = i
    · subst e; exact hy.wpOp hi trivial ⟨fun q => hS (by rw [getD_set_ne true hic] at q; exact q), H⟩
    · have := ready_mono hj e
      rw [H.1] at this
      cases this
  | succ n ih =>
    intro l a w hfree hr hy hS H
    refine ⟨fun h0 => (by rw [h0] at hr; cases hr), fun j hj => ?_⟩
    by_cases e : j = i
    · subst e; exact hy.wpOp hi trivial ⟨fun q => hS (by rw [getD_set_ne true hic] at q; exact q), H⟩
    · have hil := (mem_ready.1 hr).1
      have h1 := H.2 j (ready_mono hj e)
      obtain ⟨hjun, oj, hoj, hall⟩ := mem_ready.1 hj
      have hnot : ∀ e ∈ oj.after, Region.binds md e = true → e.on ≠ i := fun e he hb heq => by
        have q := hall e he hb
        rw [heq, getD_true_false hil] at q
        cases q
      have h2 := wpOp_putIf hoj (hfree j oj hoj e hjun hnot) (fun ks b => hsel i oi ks b hi) (fun ks b => hsel j oj ks b hoj) hQ hy h1
      have hfree' : ∀ k ok, ops[k]? = some ok → k ≠ i → (l.setIfInBounds j true).getD k true = false → (∀ e ∈ ok.after, Region.binds md e = true → e.on ≠ i) → oi.apart ops ok = true := fun k ok hk hki hun hno => by
        refine hfree k ok hk hki ?_ hno
        by_cases q : j = k
        · subst q; exact hjun
        · rw [getD_set_ne true q] at hun; exact hun
      have hcf : (((l.setIfInBounds i true).setIfInBounds j true).getD c true) = ((l.setIfInBounds j true).getD c true) := by
        rw [Array.setIfInBounds_comm _ _ (Ne.symm e), getD_set_ne true hic]
      refine wpOp_mono (fun a' w' h3 => ⟨fun q => h3.2.1 (hcf.trans q), ih hfree' (ready_mono hr (Ne.symm e)) h3.1 (fun q => h3.2.1 (hcf.trans q)) ?_⟩) h2
      rw [Array.setIfInBounds_comm _ _ e]
      exact h3.2.2
/-- Number i is taken first, whatever the world is. -/
theorem tillC_pure {i : Nat} {oi : Oper} {v : Value} {n : Nat} {l : Array Bool} {a : Act} {w : World} (hi : ops[i]? = some oi) (hs : Region.noSelect ops = true) (hf : Region.free md ops l i = true) (hr : (Region.ready md ops l).contains i = true)
    (hic : (i == c) = false) (hQ : ∀ p a w, Q (.panic p) (a.put oi.dst v) w → Q (.panic p) a w) (hy : YieldsIf P ops (fun _ => True) oi v a) (hS : S w)
    (h : tillC P md ops Q S c n (l.setIfInBounds i true) (a.put oi.dst v) w) : tillC P md ops Q S c (n + 1) l a w :=
  tillC_free hi (Region.noSelect_spec hs) (by simpa using hic) hQ n (Region.free_spec hi hf) (by simpa using hr) hy (fun _ => hS) h
/-- A call of a Go function, as one step. -/
theorem step_enter {o : Oper} {a : Act} {w : World} {K : Act → World → Prop} {E : Prop} (hgd : o.guard = none) {F : FuncId} {args : Array Value} (hrun : (execOp a.eval o).run P w = .ok (.enter F args) w)
    (hc : Calls P F args w fun
      | .returned v, w'' => K (a.put o.dst v) w''
      | .panicked chain, w'' => Q (.panic chain) a w''
      | .outgrown, _ => LetsOut Q) : if Region.wanted o (yielded ops a.tmps) = true then Oper.wp P o a w K Q else E := by
  rw [if_pos (show Region.wanted o (yielded ops a.tmps) = true by simp [Region.wanted, hgd])]
  unfold Oper.wp
  rw [hrun]
  exact hc
/-- Number i alone may come up, ahead of c. -/
theorem tillC_one {i : Nat} {o : Oper} {n : Nat} {l : Array Bool} {a : Act} {w : World} (hr : Region.ready md ops l = [i]) (ho : ops[i]? = some o)
    (h : ∀ K : Act → World → Prop, Go.Shut (∀ a w, S w → (S w → tillC P md ops Q S c n (l.setIfInBounds i true) a w) → K a w) → if Region.wanted o (yielded ops a.tmps) = true then Oper.wp P o a w K Q else K (a.put o.dst undef) w) : tillC P md ops Q S c (n + 1) l a w := by
  refine ⟨fun h0 => (by rw [hr] at h0; cases h0), fun j hj => ?_⟩
  rw [hr] at hj
  obtain rfl := List.mem_singleton.1 hj
  exact wpOp_step ho (fun K hK => h K (fun a w hS hW => hK a w ⟨fun _ => hS, hW hS⟩))
/-- From c on: whatever order. -/
theorem tillC_off {n : Nat} {l : Array Bool} {a : Act} {w : World} (hl : l.getD c true = true) : wpAny P md ops Q n l a w → tillC P md ops Q S c n l a w := by
  induction n generalizing l a w with
  | zero => exact id
  | succ n ih =>
    intro h
    refine ⟨h.1, fun j hj => wpOp_mono (fun a' w' k => ?_) (h.2 j hj)⟩
    have hl' : (l.setIfInBounds j true).getD c true = true := by
      by_cases q : j = c
      · subst q
        rcases Nat.lt_or_ge j l.size with h' | h'
        · simp [h']
        · simp
      · rw [getD_set_ne true q]; exact hl
    exact ⟨fun e => by (rw [hl'] at e; cases e), ih hl' k⟩
theorem tillC_c {o : Oper} {n : Nat} {l : Array Bool} {a : Act} {w : World} (hr : Region.ready md ops l = [c]) (ho : ops[c]? = some o)
    (h : ∀ K : Act → World → Prop, Go.Shut (∀ a w, wpAny P md ops Q n (l.setIfInBounds c true) a w → K a w) → if Region.wanted o (yielded ops a.tmps) = true then Oper.wp P o a w K Q else K (a.put o.dst undef) w) : tillC P md ops Q S c (n + 1) l a w := by
  refine ⟨fun h0 => (by rw [hr] at h0; cases h0), fun j hj => ?_⟩
  rw [hr] at hj
  obtain rfl := List.mem_singleton.1 hj
  have hl : (l.setIfInBounds j true).getD j true = true := by
    rcases Nat.lt_or_ge j l.size with h' | h'
    · simp [h']
    · simp
  exact wpOp_step ho (fun K hK => h K (fun a w hW => hK a w ⟨fun e => by (rw [hl] at e; cases e), tillC_off hl hW⟩))
theorem any_one {i : Nat} {o : Oper} {n : Nat} {l : Array Bool} {a : Act} {w : World} (hr : Region.ready md ops l = [i]) (ho : ops[i]? = some o)
    (h : ∀ K : Act → World → Prop, Go.Shut (∀ a w, wpAny P md ops Q n (l.setIfInBounds i true) a w → K a w) → if Region.wanted o (yielded ops a.tmps) = true then Oper.wp P o a w K Q else K (a.put o.dst undef) w) : wpAny P md ops Q (n + 1) l a w := by
  refine ⟨fun h0 => (by rw [hr] at h0; cases h0), fun j hj => ?_⟩
  rw [hr] at hj
  obtain rfl := List.mem_singleton.1 hj
  exact wpOp_step ho (fun K hK => h K hK)
/-- The beginning. -/
theorem region_till {id : Nat} {a : Act} {w : World} (c : Nat) (hm : P.follows .mixedOrders = true) (hS : S w.drew)
    (h : S w.drew → tillC P .any ops Q S c ops.size (Array.replicate ops.size false) a w.drew) : (Code.region id ops true).wp P Q a w :=
  wp_region_any hm (tillC_any _ (h hS))
end
end Go.Proofs.YtjcoobkpmpjpbaaGreatDoor

namespace Go.Proofs.YtjcoobkpmpjpbaaGreatDoor
open Go.RowKit Go.Maps
set_option linter.unusedVariables false

def mths (l : List Tree) : List Tree := l.filter fun t => t.kind == 4
theorem mths_cons {t : Tree} {l : List Tree} : mths (t :: l) = if t.kind = 4 then t :: mths l else mths l := method_cons
/-- Methods, in a row of its own; or one is there twice. -/
def MthsPost (M : Nat) (w : World) (c : Tree) (e : Ending) (w' : World) : Prop := Below w.heap.size w w' ∧ (((textsOf (methodsIn c)).Nodup ∧ ∃ v vs, e = .returned (.tuple #[v, .nilIface]) ∧ PRow M (w.heap.size + 1) w' v (methodsIn c) vs) ∨ (¬ (textsOf (methodsIn c)).Nodup ∧ ∃ v tt pp, e = .returned (.tuple #[v, .iface tt pp])))

set_option maxRecDepth 100000 in
set_option maxHeartbeats 8000000 in
theorem methodsOf_any {M : Nat} {w : World} (hM : M ≤ w.heap.size) {b : Nat} {t : Tree} (hn : NodeAt (fun k => k < M) w (.pointer (some ⟨b, 0, none⟩)) t) (hll : t.kids.length ≤ 1000000) (ht : ∀ k ∈ t.kids, Wf k) :
    Calls Tryz.prog 27 #[.pointer (some ⟨b, 0, none⟩)] w fun e w' => MthsPost M w t e w' := by
  obtain ⟨ks, hv⟩ := node_view hn
  have HKL := hide hv.kids
  have c5 := hv.c5
  obtain ⟨g, cap, rfl, _, _⟩ := hv.kids
  obtain ⟨L, hL⟩ : ∃ L, t.kids.length = L := ⟨_, rfl⟩
  have HLEN := hide hL
  rw [hL] at c5 hll HKL
  have HM := hide hM
  have HW := hide ht
  obtain ⟨i0, hi0, hz0, hz1, hz2⟩ := info_parts infoNode
  have hb1 := (Below.refl w.heap.size w).alloc (Nat.le_refl _) (.map #[] 0)
  have d5 := hcellB hb1 c5
  have HB1 := hide hb1
  have HNC := hide (NamesAt.made w)
  obtain ⟨R, hR⟩ : ∃ R, freshRun [] (textsOf (methodsIn t)) = R := ⟨_, rfl⟩
  have HR := hide hR
  clear hM ht hn hv hL hb1 c5 hR
  go_enter Tryz.func27, Tryz.ntmps27
  go_wp2_with fail
  refine (newNames_any _).mono ?_
  rintro e w1 ⟨rfl, rfl⟩
  have HS1 := hide (show (w.alloc (.map #[] 0)).heap.size = w.heap.size + 1 by simp)
  generalize (w.alloc (.map #[] 0)) = W at *
  go_wp2_with fail
  go_loopg [4, 14] L (fun gg lv iv wr => ∃ (i : Nat) (o : List ByteArray) (l : List Tree) (vs : List Value), i ≤ L ∧ gg = L - i ∧ iv = .int .i64 i ∧ Hid (Below w.heap.size w wr) ∧ Hid (NamesAt wr w.heap.size o) ∧ Hid (PRow M (w.heap.size + 1) wr lv l vs) ∧ Hid (R = freshRun o (textsOf (mths (t.kids.drop i)))) ∧ Hid (methodsIn t = l ++ mths (t.kids.drop i)) ∧ Hid (o.length ≤ i ∧ l.length ≤ i))
  case atStart => exact ⟨0, [], [], [], Nat.zero_le _, rfl, rfl, HB1, HNC, PRow.nil _ _ _, (unhide HR).symm, rfl, ⟨Nat.le_refl _, Nat.le_refl _⟩⟩
  case round =>
    obtain ⟨i, o, l, vs, hi, rfl, rfl, HB, HN, HP, HA, HL, HO⟩ := hrel
    obtain ⟨a1, cap1, rfl⟩ := (unhide HP).form
    by_cases hlt2 : i < L
    · have hlt3 : (i : Int) < (L : Int) := by omega
      obtain ⟨n, hk⟩ : ∃ n, t.kids[i]? = some n := ⟨_, List.getElem?_eq_getElem (by have := unhide HLEN; omega)⟩
      obtain ⟨g', cap', e1, _, hat⟩ := (show ListAt M w (.slice g t.kids.length cap) t.kids by rw [unhide HLEN]; exact unhide HKL).keep fun k hk => (unhide HB).block k (Nat.lt_of_lt_of_le hk (unhide HM))
      cases e1
      obtain ⟨a, bn, rfl, ha, hc, hnd⟩ := hat i n hk
      obtain ⟨kk, hkv⟩ := node_view hnd
      have x0 := hkv.c0
      have x1 := hkv.c1
      have x4 := hkv.c4
      have HND := hide hnd
      have HWN := hide (unhide HW n (List.mem_of_getElem? hk)).here.2
      have hdc := drop_cons hk
      have HA1 : Hid (R = freshRun o (textsOf (mths (n :: t.kids.drop (i + 1))))) := by rw [← hdc]; exact HA
      have HL1 : Hid (methodsIn t = l ++ mths (n :: t.kids.drop (i + 1))) := by rw [← hdc]; exact HL
      clear hat hkv hnd hk hdc HA HL
      by_cases k4 : n.kind = 4
      · rw [k4] at x0
        have HA2 := hide (show R = if hasName o n.text then none else freshRun (n.text :: o) (textsOf (mths (t.kids.drop (i + 1)))) by rw [unhide HA1, mths_cons, if_pos k4]; rfl)
        have HL2 := hide (show methodsIn t = (l ++ [n]) ++ mths (t.kids.drop (i + 1)) by rw [unhide HL1, mths_cons, if_pos k4, List.append_assoc]; rfl)
        clear HA1 HL1 k4
        go_wp2_with fail
        refine (add_name (unhide HN) (unhide HWN).1 (by have := (unhide HO).1; omega)).mono ?_
        rintro e W3 ⟨rfl, hn3, hg3⟩
        have y4 := cell_grown (unhide HN) hg3 x4
        have HB3 := hide ((unhide HB).grown hg3 (unhide HB).size (fun k hk => by have := Option.some.inj hk; omega))
        have HP3 := hide ((unhide HP).grown hg3 (by have := (unhide HB).size; have := unhide HM; omega) (unhide HM) (fun e => by have := ((unhide HP).far e).1; omega))
        have HND3 := hide (node_keep (unhide HND) (w' := W3) fun k hk => ((unhide HB3).block k (Nat.lt_of_lt_of_le hk (unhide HM))).trans ((unhide HB).block k (Nat.lt_of_lt_of_le hk (unhide HM))).symm)
        have HN3 := hide hn3
        have HSZ := hide (Nat.lt_of_lt_of_le (unhide HN).lt hg3.size)
        clear hn3 hg3 x0 x1 x4
        cases hh : hasName o n.text with
        | true =>
          have HA3 := hide (show R = none by rw [unhide HA2, hh]; rfl)
          clear hh
          go_wp2_with fail
          refine (wrong_any 9 y4).mono ?_
          rintro e W9 ⟨hb9, pp, rfl⟩
          have HB9 := hide ((unhide HB3).trans (hb9.mono (unhide HB3).size))
          clear hb9
          go_wp2_with fail
          go_ret2
          refine ⟨unhide HB9, Or.inr ⟨fun q => ?_, _, _, _, rfl⟩⟩
          have := (freshRun_nodup _).2 q
          rw [unhide HR, unhide HA3] at this
          cases this
        | false =>
          have HA3 := hide (show R = freshRun (n.text :: o) (textsOf (mths (t.kids.drop (i + 1)))) by rw [unhide HA2, hh]; rfl)
          have HN4 := hide (show NamesAt W3 w.heap.size (n.text :: o) by have := unhide HN3; rw [hh] at this; exact this)
          clear hh y4
          have HP4 := hide ((unhide HP3).below ((Below.refl _ _).alloc (Nat.le_refl _) (.cells #[.pointer (some ⟨bn, 0, none⟩)] 22)) (by have := unhide HSZ; have := unhide HM; omega))
          have HND4 := hide (node_keep (unhide HND3) (w' := W3.alloc (.cells #[.pointer (some ⟨bn, 0, none⟩)] 22)) fun k hk => Below.heap_alloc _ _ _ (by have := unhide HSZ; have := unhide HM; omega))
          go_wp2_with (at_builtin; refine wpList_append_lies _ rfl _ _ _ rfl (w.heap.size + 1) 22 i0 (.pointer none) 1 8 Tryz.underlying37 hi0 hz0 hz1 hz2 rfl (by decide) _ l.length vs rfl (unhide HP4).own ⟨W3.heap.size, 0, none⟩ 1 1 [.pointer (some ⟨bn, 0, none⟩)] rfl rfl (cell_one_new _ _ _) ?c2 (by decide) ?c3 ?c4 ?c5 (W3.heap.size + 1) (by simp) ?_)
          case c2 => intro u hu; simp at hu; subst hu; rfl
          case c3 => have := unhide HO; unfold maxLen; omega
          case c4 => have := unhide HO; omega
          case c5 => have := unhide HSZ; simp; omega
          intro g5 cap5 W5 hown5 hg5 hat5 hlt5
          have HP5 := hide ((unhide HP4).more hown5 hg5 (unhide HND4) (by have := unhide HSZ; have := unhide HM; simp; omega) (by have := unhide HM; omega))
          have HB5 := hide (((unhide HB3).alloc (unhide HB3).size (.cells #[.pointer (some ⟨bn, 0, none⟩)] 22)).grown hg5 (by have := (unhide HB3).size; simp; omega) (fun k hk => by have := ((unhide HP4).far hk).1; omega))
          have HN5 := hide ((unhide HN4).move ((hg5.block _ (by have := unhide HSZ; simp; omega) (fun e => by have := ((unhide HP4).far e.symm).1; omega)).trans (Below.heap_alloc _ _ _ (unhide HSZ))))
          clear hown5 hg5 hat5 hlt5
          go_wp2_with fail
          go_roundg (L - (i + 1))
          case measure => omega
          case rel => exact ⟨i + 1, n.text :: o, l ++ [n], _, by omega, rfl, by go_num, HB5, HN5, HP5, HA3, HL2, by have := unhide HO; exact ⟨by rw [List.length_cons]; omega, by rw [List.length_append, List.length_singleton]; omega⟩⟩
      · have dd4 : ((n.kind : Int) == 4) = false := by simpa using fun q : (n.kind : Int) = 4 => k4 (by omega)
        have ff4 : ¬ ((n.kind : Int) = 4) := fun q => k4 (by omega)
        have HA2 := hide (show R = freshRun o (textsOf (mths (t.kids.drop (i + 1)))) by rw [unhide HA1, mths_cons, if_neg k4])
        have HL2 := hide (show methodsIn t = l ++ mths (t.kids.drop (i + 1)) by rw [unhide HL1, mths_cons, if_neg k4])
        clear HA1 HL1 k4
        go_wp2_with fail
        go_roundg (L - (i + 1))
        case measure => omega
        case rel => exact ⟨i + 1, o, l, vs, by omega, rfl, by go_num, HB, HN, HP, HA2, HL2, by have := unhide HO; exact ⟨by omega, by omega⟩⟩
    · obtain rfl : i = L := by omega
      have hlt3 : decide ((i : Int) < (i : Int)) = false := by simp
      have hd : t.kids.drop i = [] := List.drop_eq_nil_of_le (by have := unhide HLEN; omega)
      have HA2 := hide (show R = some o by rw [unhide HA, hd]; rfl)
      have HL2 := hide (show methodsIn t = l by rw [unhide HL, hd]; exact List.append_nil _)
      clear hd
      go_wp2_with fail
      go_ret2
      refine ⟨unhide HB, Or.inl ⟨?_, _, vs, rfl, ?_⟩⟩
      · refine (freshRun_nodup _).1 ?_
        rw [unhide HR, unhide HA2]
        rfl
      · rw [unhide HL2]
        exact unhide HP
end Go.Proofs.YtjcoobkpmpjpbaaGreatDoor

namespace Go.Proofs.YtjcoobkpmpjpbaaGreatDoor
open Go.RowKit Go.Maps
set_option linter.unusedSimpArgs false
set_option linter.unusedVariables false

/-- Heads that are being made: their block lies behind the map of numbers, their rows behind both. -/
structure HMk (M : Nat) (w wr : World) (cs fns : List Tree) (vcl vfn : Value) (vs1 vs2 : List Value) : Prop where
  bel : Below w.heap.size w wr
  blk : wr.heap[w.heap.size + 1]? = some (.cells #[vcl, vfn, .map (some w.heap.size)] 64 (0, 0))
  cls : PRow M (w.heap.size + 2) wr vcl cs vs1
  fns : PRow M (w.heap.size + 2) wr vfn fns vs2
  apart : ∀ g, vcl.ownBlock = some g → vfn.ownBlock ≠ some g
theorem HMk.size {M : Nat} {w wr : World} {cs fns : List Tree} {vcl vfn : Value} {vs1 vs2 : List Value} (h : HMk M w wr cs fns vcl vfn vs1 vs2) : w.heap.size + 2 ≤ wr.heap.size := by
  have := (Array.getElem?_eq_some_iff.1 h.blk).1
  omega
theorem HMk.put {M : Nat} {w wr w' : World} {cs fns : List Tree} {vcl vfn : Value} {vs1 vs2 : List Value} (h : HMk M w wr cs fns vcl vfn vs1 vs2) (hM : M ≤ w.heap.size) (hg : wr.grownBy w' (some w.heap.size)) : HMk M w w' cs fns vcl vfn vs1 vs2 := by
  have hs := h.size
  refine ⟨h.bel.grown hg h.bel.size (fun k hk => by have := Option.some.inj hk; omega), (hg.block _ (by omega) (fun e => by have := Option.some.inj e; omega)).trans h.blk, h.cls.grown hg (by omega) hM (fun e => by have := (h.cls.far e).1; omega), h.fns.grown hg (by omega) hM (fun e => by have := (h.fns.far e).1; omega), h.apart⟩
theorem HMk.below {M : Nat} {w wr w' : World} {cs fns : List Tree} {vcl vfn : Value} {vs1 vs2 : List Value} (h : HMk M w wr cs fns vcl vfn vs1 vs2) (hM : M ≤ w.heap.size) (hb : Below wr.heap.size wr w') : HMk M w w' cs fns vcl vfn vs1 vs2 := by
  have hs := h.size
  exact ⟨h.bel.trans (hb.mono h.bel.size), (hb.block _ (by omega)).trans h.blk, h.cls.below hb (by omega), h.fns.below hb (by omega), h.apart⟩
/-- One more. -/
theorem HMk.more_cls {M : Nat} {w W w3 : World} {cs fns : List Tree} {vcl vfn : Value} {vs1 vs2 : List Value} (h : HMk M w W cs fns vcl vfn vs1 vs2) (hM : M ≤ w.heap.size) {g cap b : Nat} {t : Tree} (hown : w3.ownsRow (w.heap.size + 2) 22 1 (.slice (some ⟨g, 0, none⟩) (cs.length + 1) cap) (cs.length + 1) (vs1 ++ [.pointer (some ⟨b, 0, none⟩)])) (hg : W.grownBy w3 vcl.ownBlock) (hat : vcl.ownBlock = some g ∨ g = W.heap.size) (hn : NodeAt (fun k => k < M) W (.pointer (some ⟨b, 0, none⟩)) t) :
    w3.heap[w.heap.size + 1]? = some (.cells #[vcl, vfn, .map (some w.heap.size)] 64 (0, 0)) ∧ Hid (HMk M w (w3.setCell ⟨w.heap.size + 1, 0, none⟩ (.slice (some ⟨g, 0, none⟩) (cs.length + 1) cap)) (cs ++ [t]) fns (.slice (some ⟨g, 0, none⟩) (cs.length + 1) cap) vfn (vs1 ++ [.pointer (some ⟨b, 0, none⟩)]) vs2) ∧ Hid ((w3.setCell ⟨w.heap.size + 1, 0, none⟩ (.slice (some ⟨g, 0, none⟩) (cs.length + 1) cap)).heap[w.heap.size]? = W.heap[w.heap.size]?) := by
  have hs := h.size
  have hne : ∀ k, k < w.heap.size + 2 → some k ≠ vcl.ownBlock := fun k hk e => by
    have := (h.cls.far e.symm).1
    omega
  have hb3 := (hg.block (w.heap.size + 1) (by omega) (hne _ (by omega))).trans h.blk
  have hgs : w.heap.size + 2 ≤ g := by
    rcases hat with e | e
    · exact (h.cls.far e).1
    · omega
  have hm := h.cls.more hown hg hn (by omega) (by omega)
  have kS : ∀ k, k ≠ w.heap.size + 1 → (w3.setCell ⟨w.heap.size + 1, 0, none⟩ (.slice (some ⟨g, 0, none⟩) (cs.length + 1) cap)).heap[k]? = w3.heap[k]? := fun k hk => hother _ hk
  refine ⟨hb3, ⟨?_, ?_, ?_, ?_, ?_⟩, ?_⟩
  · exact (h.bel.grown hg h.bel.size (fun k hk => by have := (h.cls.far hk).1; omega)).setCell (p := ⟨w.heap.size + 1, 0, none⟩) (by show w.heap.size ≤ w.heap.size + 1; omega) _
  · rw [hset hb3]
    rfl
  · exact hm.keep (fun k hk => kS k (by omega)) (fun g2 q => kS g2 (by have := (hm.far q).1; omega))
  · refine h.fns.keep (fun k hk => (kS k (by omega)).trans (hg.block k (by omega) (hne k (by omega)))) (fun g2 q => ?_)
    refine (kS g2 (by have := (h.fns.far q).1; omega)).trans (hg.block g2 (h.fns.far q).2 (fun e => ?_))
    exact h.apart g2 e.symm q
  · intro g2 e q
    have e' : g2 = g := by simpa [Value.ownBlock] using e.symm
    subst e'
    rcases hat with e2 | e2
    · exact h.apart g2 e2 q
    · have := (h.fns.far q).2
      omega
  · exact (kS _ (by omega)).trans (hg.block _ (by omega) (hne _ (by omega)))
/-- One more. -/
theorem HMk.more_fns {M : Nat} {w W w3 : World} {cs fns : List Tree} {vcl vfn : Value} {vs1 vs2 : List Value} (h : HMk M w W cs fns vcl vfn vs1 vs2) (hM : M ≤ w.heap.size) {g cap b : Nat} {t : Tree} (hown : w3.ownsRow (w.heap.size + 2) 22 1 (.slice (some ⟨g, 0, none⟩) (fns.length + 1) cap) (fns.length + 1) (vs2 ++ [.pointer (some ⟨b, 0, none⟩)])) (hg : W.grownBy w3 vfn.ownBlock) (hat : vfn.ownBlock = some g ∨ g = W.heap.size) (hn : NodeAt (fun k => k < M) W (.pointer (some ⟨b, 0, none⟩)) t) :
    w3.heap[w.heap.size + 1]? = some (.cells #[vcl, vfn, .map (some w.heap.size)] 64 (0, 0)) ∧ Hid (HMk M w (w3.setCell ⟨w.heap.size + 1, 1, none⟩ (.slice (some ⟨g, 0, none⟩) (fns.length + 1) cap)) cs (fns ++ [t]) vcl (.slice (some ⟨g, 0, none⟩) (fns.length + 1) cap) vs1 (vs2 ++ [.pointer (some ⟨b, 0, none⟩)])) ∧ Hid ((w3.setCell ⟨w.heap.size + 1, 1, none⟩ (.slice (some ⟨g, 0, none⟩) (fns.length + 1) cap)).heap[w.heap.size]? = W.heap[w.heap.size]?) := by
  have hs := h.size
  have hne : ∀ k, k < w.heap.size + 2 → some k ≠ vfn.ownBlock := fun k hk e => by
    have := (h.fns.far e.symm).1
    omega
  have hb3 := (hg.block (w.heap.size + 1) (by omega) (hne _ (by omega))).trans h.blk
  have hgs : w.heap.size + 2 ≤ g := by
    rcases hat with e | e
    · exact (h.fns.far e).1
    · omega
  have hm := h.fns.more hown hg hn (by omega) (by omega)
  have kS : ∀ k, k ≠ w.heap.size + 1 → (w3.setCell ⟨w.heap.size + 1, 1, none⟩ (.slice (some ⟨g, 0, none⟩) (fns.length + 1) cap)).heap[k]? = w3.heap[k]? := fun k hk => hother _ hk
  refine ⟨hb3, ⟨?_, ?_, ?_, ?_, ?_⟩, ?_⟩
  · exact (h.bel.grown hg h.bel.size (fun k hk => by have := (h.fns.far hk).1; omega)).setCell (p := ⟨w.heap.size + 1, 1, none⟩) (by show w.heap.size ≤ w.heap.size + 1; omega) _
  · rw [hset hb3]
    rfl
  · refine h.cls.keep (fun k hk => (kS k (by omega)).trans (hg.block k (by omega) (hne k (by omega)))) (fun g2 q => ?_)
    refine (kS g2 (by have := (h.cls.far q).1; omega)).trans (hg.block g2 (h.cls.far q).2 (fun e => ?_))
    exact h.apart g2 q e.symm
  · exact hm.keep (fun k hk => kS k (by omega)) (fun g2 q => kS g2 (by have := (hm.far q).1; omega))
  · intro g2 e q
    have e' : g2 = g := by simpa [Value.ownBlock] using q.symm
    subst e'
    rcases hat with e2 | e2
    · exact h.apart g2 e e2
    · have := (h.cls.far e).2
      omega
  · exact (kS _ (by omega)).trans (hg.block _ (by omega) (hne _ (by omega)))
def HeadsPost (w : World) (l : List Tree) (e : Ending) (w' : World) : Prop := Below w.heap.size w w' ∧ ∃ nb vcl vfn, e = .returned (.pointer (some ⟨w.heap.size + 1, 0, none⟩)) ∧ HdAt w'.heap.size w' (w.heap.size + 1) nb vcl vfn (classesOf l) (fnsOf l)

set_option maxRecDepth 100000 in
set_option maxHeartbeats 8000000 in
theorem headsOf_any {M : Nat} {w : World} (hM : M ≤ w.heap.size) {b : Nat} {t : Tree} (hn : NodeAt (fun k => k < M) w (.pointer (some ⟨b, 0, none⟩)) t) (hll : t.kids.length ≤ 1000000) (ht : ∀ k ∈ t.kids, Wf k) :
    Calls Tryz.prog 11 #[.pointer (some ⟨b, 0, none⟩)] w fun e w' => HeadsPost w t.kids e w' := by
  obtain ⟨ks, hv⟩ := node_view hn
  have HKL := hide hv.kids
  have c5 := hv.c5
  have hbM := Nat.lt_of_lt_of_le hv.lt hM
  obtain ⟨g, cap, rfl, _, _⟩ := hv.kids
  obtain ⟨L, hL⟩ : ∃ L, t.kids.length = L := ⟨_, rfl⟩
  have HLEN := hide hL
  rw [hL] at c5 hll HKL
  have HM := hide hM
  have HW := hide ht
  obtain ⟨i0, hi0, hz0, hz1, hz2⟩ := info_parts infoNode
  have mm : (Go.Instr.makeMap 62 none).run Tryz.prog w = .ok (.map (some w.heap.size)) (w.alloc (.map #[] 0)) := rfl
  have hb1 := ((Below.refl w.heap.size w).alloc (Nat.le_refl _) (.map #[] 0)).alloc (by simp) (.cells #[.slice none 0 0, .slice none 0 0, .map (some w.heap.size)] 64)
  have d5 := hcellB hb1 c5
  have hx1 : ((w.alloc (.map #[] 0)).alloc (.cells #[.slice none 0 0, .slice none 0 0, .map (some w.heap.size)] 64)).heap[w.heap.size + 1]? = some (.cells #[.slice none 0 0, .slice none 0 0, .map (some w.heap.size)] 64 (0, 0)) := hnewK _ _ (by simp)
  have HMK : Hid (HMk M w ((w.alloc (.map #[] 0)).alloc (.cells #[.slice none 0 0, .slice none 0 0, .map (some w.heap.size)] 64)) [] [] (.slice none 0 0) (.slice none 0 0) [] []) := ⟨hb1, hx1, PRow.nil _ _ _, PRow.nil _ _ _, fun g e => by cases e⟩
  have HNU : Hid (NumAt ((w.alloc (.map #[] 0)).alloc (.cells #[.slice none 0 0, .slice none 0 0, .map (some w.heap.size)] 64)) w.heap.size []) := (NumAt.made w).keep (Below.heap_alloc _ _ _ (by simp))
  clear hM ht hn hv hL hb1 c5 hx1
  go_enter Tryz.func11, Tryz.ntmps11
  go_wp2_with fail
  generalize (w.alloc (.map #[] 0)).alloc (.cells #[.slice none 0 0, .slice none 0 0, .map (some w.heap.size)] 64) = W at *
  go_loopg [14] L (fun gg iv wr => ∃ (i : Nat) (cs fns : List Tree) (vcl vfn : Value) (vs1 vs2 : List Value), i ≤ L ∧ gg = L - i ∧ iv = .int .i64 i ∧ Hid (HMk M w wr cs fns vcl vfn vs1 vs2) ∧ Hid (NumAt wr w.heap.size cs) ∧ Hid (classesOf t.kids = cs ++ classesOf (t.kids.drop i)) ∧ Hid (fnsOf t.kids = fns ++ fnsOf (t.kids.drop i)) ∧ Hid (cs.length ≤ i ∧ fns.length ≤ i))
  case atStart => exact ⟨0, [], [], .slice none 0 0, .slice none 0 0, [], [], Nat.zero_le _, rfl, rfl, HMK, HNU, rfl, rfl, ⟨Nat.le_refl _, Nat.le_refl _⟩⟩
  case round =>
    obtain ⟨i, cs, fns, vcl, vfn, vs1, vs2, hi, rfl, rfl, HK, HN, HC, HF, HO⟩ := hrel
    by_cases hlt2 : i < L
    · have hlt3 : (i : Int) < (L : Int) := by omega
      obtain ⟨n, hk⟩ : ∃ n, t.kids[i]? = some n := ⟨_, List.getElem?_eq_getElem (by have := unhide HLEN; omega)⟩
      obtain ⟨g', cap', e1, _, hat⟩ := (show ListAt M w (.slice g t.kids.length cap) t.kids by rw [unhide HLEN]; exact unhide HKL).keep fun k hk => (unhide HK).bel.block k (Nat.lt_of_lt_of_le hk (unhide HM))
      cases e1
      obtain ⟨a, bn, rfl, ha, hc, hnd⟩ := hat i n hk
      obtain ⟨kk, hkv⟩ := node_view hnd
      have x0 := hkv.c0
      have x1 := hkv.c1
      have HND := hide hnd
      have HBN := hide hkv.lt
      have HWN := hide (unhide HW n (List.mem_of_getElem? hk)).here.2
      have hdc := drop_cons hk
      have HC1 : Hid (classesOf t.kids = cs ++ classesOf (n :: t.kids.drop (i + 1))) := by rw [← hdc]; exact HC
      have HF1 : Hid (fnsOf t.kids = fns ++ fnsOf (n :: t.kids.drop (i + 1))) := by rw [← hdc]; exact HF
      obtain ⟨a1, cap1, hf1⟩ := (unhide HK).cls.form
      obtain ⟨a2, cap2, hf2⟩ := (unhide HK).fns.form
      subst hf1 hf2
      clear hat hkv hnd hk hdc HC HF
      by_cases k2 : n.kind = 2
      · rw [k2] at x0
        have HC2 := hide (show classesOf t.kids = (cs ++ [n]) ++ classesOf (t.kids.drop (i + 1)) by rw [unhide HC1, cls_cons, if_pos k2, List.append_assoc]; rfl)
        have HF2 := hide (show fnsOf t.kids = fns ++ fnsOf (t.kids.drop (i + 1)) by rw [unhide HF1, fns_cons, if_neg (by omega)])
        clear HC1 HF1 k2
        have b0 := hcell (unhide HK).blk 0
        have b2 := hcell (unhide HK).blk 2
        simp only [List.getElem?_toArray, List.getElem?_cons_zero, List.getElem?_cons_succ] at b0 b2
        obtain ⟨W2, hput, hn2, hg2⟩ := ((unhide HN).keep (w' := wr.drew) rfl).put (unhide HWN).1 (c := n) (by have := (unhide HO).1; omega)
        have HN2 := hide hn2
        have hbd : Below wr.heap.size wr wr.drew := Below.drew (Below.refl _ _)
        have HK2 := hide (((unhide HK).below (unhide HM) hbd).put (unhide HM) hg2)
        have HG2 := hide hg2
        clear hn2 hg2 hbd
        go_wp2_with fail
        refine wp_region_held_drew (S := fun w' => w'.cell? ⟨w.heap.size + 1, 2, none⟩ = some (.map (some w.heap.size)) ∧ w'.cell? ⟨bn, 1, none⟩ = some (.string n.text) ∧ w'.cell? ⟨w.heap.size + 1, 0, none⟩ = some (.slice a1 cs.length cap1)) (by kernel_rfl) ⟨b2, x1, b0⟩ (fun hHeld => ?_)
        refine wpAnyH_take (i := 0) (oi := { dst := some 24, op := _, type := _, pos := _, after := _, guard := _ }) (v := ?_) rfl (by kernel_rfl) (by kernel_rfl) (by kernel_rfl) (fun _ _ _ h => h) (Or.inl ⟨by rfl, ?_⟩) (by assumption) ?_
        case refine_2 =>
          intro w hSw
          try dsimp only at hSw
          go_simp
          try with_reducible rfl
        simp only [Act.put, List.setIfInBounds_toArray, List.set_cons_zero, List.set_cons_succ]
        refine wpAnyH_take (i := 1) (oi := { dst := some 25, op := _, type := _, pos := _, after := _, guard := _ }) (v := ?_) rfl (by kernel_rfl) (by kernel_rfl) (by kernel_rfl) (fun _ _ _ h => h) (Or.inl ⟨by rfl, ?_⟩) (by assumption) ?_
        case refine_2 =>
          intro w hSw
          try dsimp only at hSw
          go_simp
          try with_reducible rfl
        simp only [Act.put, List.setIfInBounds_toArray, List.set_cons_zero, List.set_cons_succ]
        refine wpAnyH_take (i := 2) (oi := { dst := some 26, op := _, type := _, pos := _, after := _, guard := _ }) (v := ?_) rfl (by kernel_rfl) (by kernel_rfl) (by kernel_rfl) (fun _ _ _ h => h) (Or.inl ⟨by rfl, ?_⟩) (by assumption) ?_
        case refine_2 =>
          intro w hSw
          try dsimp only at hSw
          go_simp
          try with_reducible rfl
        simp only [Act.put, List.setIfInBounds_toArray, List.set_cons_zero, List.set_cons_succ]
        refine wpAnyH_take (i := 3) (oi := { dst := some 27, op := _, type := _, pos := _, after := _, guard := _ }) (v := ?_) rfl (by kernel_rfl) (by kernel_rfl) (by kernel_rfl) (fun _ _ _ h => h) (Or.inl ⟨by rfl, ?_⟩) (by assumption) ?_
        case refine_2 =>
          intro w hSw
          try dsimp only at hSw
          go_simp
          try with_reducible rfl
        simp only [Act.put, List.setIfInBounds_toArray, List.set_cons_zero, List.set_cons_succ]
        refine wpAnyH_take (i := 4) (oi := { dst := some 28, op := _, type := _, pos := _, after := _, guard := _ }) (v := ?_) rfl (by kernel_rfl) (by kernel_rfl) (by kernel_rfl) (fun _ _ _ h => h) (Or.inl ⟨by rfl, ?_⟩) (by assumption) ?_
        case refine_2 =>
          intro w hSw
          try dsimp only at hSw
          go_simp
          try with_reducible rfl
        simp only [Act.put, List.setIfInBounds_toArray, List.set_cons_zero, List.set_cons_succ]
        refine wpAnyH_take (i := 5) (oi := { dst := some 29, op := _, type := _, pos := _, after := _, guard := _ }) (v := ?_) rfl (by kernel_rfl) (by kernel_rfl) (by kernel_rfl) (fun _ _ _ h => h) (Or.inl ⟨by rfl, ?_⟩) (by assumption) ?_
        case refine_2 =>
          intro w hSw
          try dsimp only at hSw
          go_simp
          try with_reducible rfl
        simp only [Act.put, List.setIfInBounds_toArray, List.set_cons_zero, List.set_cons_succ]
        refine wpAnyH_take (i := 6) (oi := { dst := some 30, op := _, type := _, pos := _, after := _, guard := _ }) (v := ?_) rfl (by kernel_rfl) (by kernel_rfl) (by kernel_rfl) (fun _ _ _ h => h) (Or.inl ⟨by rfl, ?_⟩) (by assumption) ?_
        case refine_2 =>
          intro w hSw
          try dsimp only at hSw
          go_simp
          try with_reducible rfl
        simp only [Act.put, List.setIfInBounds_toArray, List.set_cons_zero, List.set_cons_succ]
        refine wpAnyH_take (i := 7) (oi := { dst := some 31, op := _, type := _, pos := _, after := _, guard := _ }) (v := ?_) rfl (by kernel_rfl) (by kernel_rfl) (by kernel_rfl) (fun _ _ _ h => h) (Or.inl ⟨by rfl, ?_⟩) (by assumption) ?_
        case refine_2 =>
          intro w hSw
          try dsimp only at hSw
          go_simp
          try with_reducible rfl
        simp only [Act.put, List.setIfInBounds_toArray, List.set_cons_zero, List.set_cons_succ]
        refine wpAnyH_take (i := 8) (oi := { dst := some 32, op := _, type := _, pos := _, after := _, guard := _ }) (v := ?_) rfl (by kernel_rfl) (by kernel_rfl) (by kernel_rfl) (fun _ _ _ h => h) (Or.inl ⟨by rfl, ?_⟩) (by assumption) ?_
        case refine_2 =>
          intro w hSw
          try dsimp only at hSw
          go_simp
          try with_reducible rfl
        simp only [Act.put, List.setIfInBounds_toArray, List.set_cons_zero, List.set_cons_succ]
        refine wpAnyH_take (i := 9) (oi := { dst := some 33, op := _, type := _, pos := _, after := _, guard := _ }) (v := ?_) rfl (by kernel_rfl) (by kernel_rfl) (by kernel_rfl) (fun _ _ _ h => h) (Or.inl ⟨by rfl, ?_⟩) (by assumption) ?_
        case refine_2 =>
          intro w hSw
          try dsimp only at hSw
          go_simp
          try with_reducible rfl
        simp only [Act.put, List.setIfInBounds_toArray, List.set_cons_zero, List.set_cons_succ]
        refine wpAnyH_take (i := 10) (oi := { dst := some 34, op := _, type := _, pos := _, after := _, guard := _ }) (v := ?_) rfl (by kernel_rfl) (by kernel_rfl) (by kernel_rfl) (fun _ _ _ h => h) (Or.inl ⟨by rfl, ?_⟩) (by assumption) ?_
        case refine_2 =>
          intro w hSw
          try dsimp only at hSw
          go_simp
          try with_reducible rfl
        simp only [Act.put, List.setIfInBounds_toArray, List.set_cons_zero, List.set_cons_succ]
        refine wpAnyH_take (i := 11) (oi := { dst := some 35, op := _, type := _, pos := _, after := _, guard := _ }) (v := ?_) rfl (by kernel_rfl) (by kernel_rfl) (by kernel_rfl) (fun _ _ _ h => h) (Or.inl ⟨by rfl, ?_⟩) (by assumption) ?_
        case refine_2 =>
          intro w hSw
          try dsimp only at hSw
          go_simp
          try with_reducible rfl
        simp only [Act.put, List.setIfInBounds_toArray, List.set_cons_zero, List.set_cons_succ]
        refine wpAnyH_take (i := 12) (oi := { dst := some 36, op := _, type := _, pos := _, after := _, guard := _ }) (v := ?_) rfl (by kernel_rfl) (by kernel_rfl) (by kernel_rfl) (fun _ _ _ h => h) (Or.inl ⟨by rfl, ?_⟩) (by assumption) ?_
        case refine_2 =>
          intro w hSw
          try dsimp only at hSw
          go_simp
          try with_reducible rfl
        simp only [Act.put, List.setIfInBounds_toArray, List.set_cons_zero, List.set_cons_succ]
        have q1 := hcell (unhide HK2).blk 0
        have q2 := hcell (unhide HK2).blk 2
        have q3 : W2.cell? ⟨bn, 1, none⟩ = some (.string n.text) := (World.cell?_of_block ((unhide HG2).block bn (cell_ltK x1) (fun e => by have := Option.some.inj e; have := unhide HBN; have := unhide HM; omega))).trans x1
        simp only [List.getElem?_toArray, List.getElem?_cons_zero, List.getElem?_cons_succ] at q1 q2
        refine wpAnyH_ready (rs := [13]) (by kernel_rfl) (by simp) ?_
        refine AllReadyH.cons (o := { dst := none, op := _, type := _, pos := _, after := _, guard := _ }) rfl (fun K hK => ?_) AllReadyH.nil
        go_simp
        refine hK.out _ _ ⟨q2, q3, q1⟩ (fun hHeld13 => ?_)
        clear hK K
        refine wpAnyH_done (by kernel_rfl) ?_ _
        clear hHeld hHeld13 b0 b2 x1 x0 hc
        have q0 := hcell (unhide HK2).blk 0
        simp only [List.getElem?_toArray, List.getElem?_cons_zero, List.getElem?_cons_succ] at q0
        have HK3 := hide ((unhide HK2).below (unhide HM) ((Below.refl _ _).alloc (Nat.le_refl _) (.cells #[.pointer (some ⟨bn, 0, none⟩)] 22)))
        have HND3 := hide (node_keep (unhide HND) (w' := W2.alloc (.cells #[.pointer (some ⟨bn, 0, none⟩)] 22)) fun k hk => ((unhide HK3).bel.block k (Nat.lt_of_lt_of_le hk (unhide HM))).trans ((unhide HK).bel.block k (Nat.lt_of_lt_of_le hk (unhide HM))).symm)
        go_wp2_with (at_builtin; refine wpList_append_lies _ rfl _ _ _ rfl (w.heap.size + 2) 22 i0 (.pointer none) 1 8 Tryz.underlying37 hi0 hz0 hz1 hz2 rfl (by decide) _ cs.length vs1 rfl (unhide HK3).cls.own ⟨W2.heap.size, 0, none⟩ 1 1 [.pointer (some ⟨bn, 0, none⟩)] rfl rfl (cell_one_new _ _ _) ?c2 (by decide) ?c3 ?c4 ?c5 (W2.heap.size + 1) (by simp) ?_)
        case c2 => intro u hu; simp at hu; subst hu; rfl
        case c3 => have := unhide HO; unfold maxLen; omega
        case c4 => have := unhide HO; omega
        case c5 => exact (unhide HK3).size
        intro g5 cap5 W5 hown5 hg5 hat5 hlt5
        obtain ⟨hb5, HK6, HE6⟩ := (unhide HK3).more_cls (unhide HM) hown5 hg5 (hat5.imp id (fun q => by rw [q]; simp)) (unhide HND3)
        have f5 := hfroz hb5 0
        have r5 := hcell hb5 0
        simp only [List.getElem?_toArray, List.getElem?_cons_zero, List.getElem?_cons_succ] at r5
        clear hown5 hg5 hat5 hlt5 hb5
        go_wp2_with fail
        go_roundg (L - (i + 1))
        case measure => omega
        case rel => exact ⟨i + 1, cs ++ [n], fns, _, _, _, _, by omega, rfl, by go_num, HK6, (unhide HN2).keep ((unhide HE6).trans (Below.heap_alloc _ _ _ (unhide HN2).lt)), HC2, HF2, by have := unhide HO; exact ⟨by rw [List.length_append, List.length_singleton]; omega, by omega⟩⟩
      · have dd2 : ((n.kind : Int) == 2) = false := by simpa using fun q : (n.kind : Int) = 2 => k2 (by omega)
        have ff2 : ¬ ((n.kind : Int) = 2) := fun q => k2 (by omega)
        by_cases k5 : n.kind = 5
        · clear dd2 ff2
          rw [k5] at x0
          have HC2 := hide (show classesOf t.kids = cs ++ classesOf (t.kids.drop (i + 1)) by rw [unhide HC1, cls_cons, if_neg k2])
          have HF2 := hide (show fnsOf t.kids = (fns ++ [n]) ++ fnsOf (t.kids.drop (i + 1)) by rw [unhide HF1, fns_cons, if_pos k5, List.append_assoc]; rfl)
          clear HC1 HF1 k2 k5
          have q0 := hcell (unhide HK).blk 1
          simp only [List.getElem?_toArray, List.getElem?_cons_zero, List.getElem?_cons_succ] at q0
          have HK3 := hide ((unhide HK).below (unhide HM) ((Below.refl _ _).alloc (Nat.le_refl _) (.cells #[.pointer (some ⟨bn, 0, none⟩)] 22)))
          have HND3 := hide (node_keep (unhide HND) (w' := wr.alloc (.cells #[.pointer (some ⟨bn, 0, none⟩)] 22)) fun k hk => ((unhide HK3).bel.block k (Nat.lt_of_lt_of_le hk (unhide HM))).trans ((unhide HK).bel.block k (Nat.lt_of_lt_of_le hk (unhide HM))).symm)
          go_wp2_with (at_builtin; refine wpList_append_lies _ rfl _ _ _ rfl (w.heap.size + 2) 22 i0 (.pointer none) 1 8 Tryz.underlying37 hi0 hz0 hz1 hz2 rfl (by decide) _ fns.length vs2 rfl (unhide HK3).fns.own ⟨wr.heap.size, 0, none⟩ 1 1 [.pointer (some ⟨bn, 0, none⟩)] rfl rfl (cell_one_new _ _ _) ?c2 (by decide) ?c3 ?c4 ?c5 (wr.heap.size + 1) (by simp) ?_)
          case c2 => intro u hu; simp at hu; subst hu; rfl
          case c3 => have := unhide HO; unfold maxLen; omega
          case c4 => have := unhide HO; omega
          case c5 => exact (unhide HK3).size
          intro g5 cap5 W5 hown5 hg5 hat5 hlt5
          obtain ⟨hb5, HK6, HE6⟩ := (unhide HK3).more_fns (unhide HM) hown5 hg5 (hat5.imp id (fun q => by rw [q]; simp)) (unhide HND3)
          have f5 := hfroz hb5 1
          have r5 := hcell hb5 1
          simp only [List.getElem?_toArray, List.getElem?_cons_zero, List.getElem?_cons_succ] at r5
          clear hown5 hg5 hat5 hlt5 hb5
          go_wp2_with fail
          go_roundg (L - (i + 1))
          case measure => omega
          case rel => exact ⟨i + 1, cs, fns ++ [n], _, _, _, _, by omega, rfl, by go_num, HK6, (unhide HN).keep ((unhide HE6).trans (Below.heap_alloc _ _ _ (unhide HN).lt)), HC2, HF2, by have := unhide HO; exact ⟨by omega, by rw [List.length_append, List.length_singleton]; omega⟩⟩
        · have dd5 : ((n.kind : Int) == 5) = false := by simpa using fun q : (n.kind : Int) = 5 => k5 (by omega)
          have ff5 : ¬ ((n.kind : Int) = 5) := fun q => k5 (by omega)
          have HC2 := hide (show classesOf t.kids = cs ++ classesOf (t.kids.drop (i + 1)) by rw [unhide HC1, cls_cons, if_neg k2])
          have HF2 := hide (show fnsOf t.kids = fns ++ fnsOf (t.kids.drop (i + 1)) by rw [unhide HF1, fns_cons, if_neg k5])
          clear HC1 HF1 k2 k5
          go_wp2_with fail
          go_roundg (L - (i + 1))
          case measure => omega
          case rel => exact ⟨i + 1, cs, fns, _, _, _, _, by omega, rfl, by go_num, HK, HN, HC2, HF2, by have := unhide HO; exact ⟨by omega, by omega⟩⟩
    · obtain rfl : i = L := by omega
      have hlt3 : decide ((i : Int) < (i : Int)) = false := by simp
      have hd : t.kids.drop i = [] := List.drop_eq_nil_of_le (by have := unhide HLEN; omega)
      have HC2 := hide (show classesOf t.kids = cs by rw [unhide HC, hd]; exact List.append_nil _)
      have HF2 := hide (show fnsOf t.kids = fns by rw [unhide HF, hd]; exact List.append_nil _)
      clear hd
      go_wp2_with fail
      go_ret
      refine ⟨(unhide HK).bel, w.heap.size, vcl, vfn, rfl, ?_⟩
      have hs := (unhide HK).size
      rw [unhide HC2, unhide HF2]
      exact ⟨by omega, by omega, (unhide HK).blk, (unhide HK).cls.list (by have := unhide HM; omega), (unhide HK).fns.list (by have := unhide HM; omega), unhide HN⟩
end Go.Proofs.YtjcoobkpmpjpbaaGreatDoor

namespace Go.Proofs.YtjcoobkpmpjpbaaGreatDoor
open Go.RowKit Go.Maps
set_option linter.unusedSimpArgs false
set_option linter.unusedVariables false

theorem node_set {M : Nat} {w : World} {v : Value} {t : Tree} (h : NodeAt (fun k => k < M) w v t) {s i : Nat} (hs : M ≤ s) (u : Value) : NodeAt (fun k => k < M) (w.setCell ⟨s, i, none⟩ u) v t := node_keep h fun k hk => hother u (by omega)
theorem list_set {M : Nat} {w : World} {v : Value} {l : List Tree} (h : ListAt M w v l) {s i : Nat} (hs : M ≤ s) (u : Value) : ListAt M (w.setCell ⟨s, i, none⟩ u) v l := h.keep fun k hk => hother u (by omega)
theorem PlA.set {M : Nat} {w : World} {tp sp b N : Nat} {T : Tab} {vc vf : Value} {env : List (List ByteArray)} (h : PlA M w tp sp b N T vc vf env) {s i : Nat} (hs : M ≤ s) (hx : ∃ cs fr, w.heap[s]? = some (.cells cs 49 fr)) (u : Value) : PlA M (w.setCell ⟨s, i, none⟩ u) tp sp b N T vc vf env :=
  ⟨h.tab.keep fun k hk => hother u (by omega), h.scope.but ((ButPl.refl w).set hx u) (by rw [size_set]; exact Nat.le_refl _), by rw [size_set]; exact h.hM, h.hb⟩
theorem cell_other {w : World} {a : Addr} {v : Value} (h : w.cell? a = some v) {s i : Nat} (hs : a.block ≠ s) (u : Value) : (w.setCell ⟨s, i, none⟩ u).cell? a = some v := (World.cell?_of_block (hother u hs)).trans h
theorem grown_set {w w' : World} {b : Nat} (h : w.grownBy w' (some b)) {s i : Nat} (hs : w.heap.size ≤ s) (u : Value) : w.grownBy (w'.setCell ⟨s, i, none⟩ u) (some b) := ⟨h.os, h.tape, h.output, by rw [size_set]; exact h.size, fun k hk hne => (hother u (by omega)).trans (h.block k hk hne)⟩
theorem many_kids (t : Tree) : t.many = 1 + manyL t.kids := many_eq t
theorem low_kids {f : Nat} {t : Tree} (h : Lowt (f + 1) t) (hw : Wf t) : ∀ k ∈ t.kids, Lowt f k ∧ Wf k := fun k hk => ⟨h k hk, hw.kid hk⟩
theorem low_kids2 {f : Nat} {t q : Tree} (h : Lowt (f + 1) t) (hw : Wf t) (hq : q ∈ t.kids) : ∀ k ∈ q.kids, Lowt f k ∧ Wf k := fun k hk => by
  have h1 := h q hq
  cases f with
  | zero => exact absurd h1 (fun h => h)
  | succ f => exact ⟨(h1 k hk).up, (hw.kid hq).kid hk⟩
theorem scope_below {M : Nat} {w w' : World} {tp sp b N : Nat} {T : Tab} {vc vf : Value} {env : List (List ByteArray)} (h : PlA M w tp sp b N T vc vf env) (hb : Below w.heap.size w w') : ScopeAt w' N sp b env := (h.keep hb).scope
end Go.Proofs.YtjcoobkpmpjpbaaGreatDoor
