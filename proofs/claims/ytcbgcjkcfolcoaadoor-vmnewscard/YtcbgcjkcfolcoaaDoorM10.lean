/-
  A region that draws its order, and writes at its end what it read: what is read may be taken first, if it is as it was until an operation has come up that waits for it.
-/
import Derived.Test.YtcbgcjkcfolcoaaDoorM09
import Derived.Deep.RegionHeld
namespace Go.Proofs.YtcbgcjkcfolcoaaDoor
open Go Go.RowKit

section
variable {P : Program} {ops : Array Oper} {Q : Exit → Act → World → Prop} {md : Region.Mode} {S : World → Prop} {c : Nat}
/-- Whatever comes up next, and so on; S holds as long as operation c has not come up. -/
def tillC (P : Program) (md : Region.Mode) (ops : Array Oper) (Q : Exit → Act → World → Prop) (S : World → Prop) (c : Nat) : Nat → Array Bool → Act → World → Prop
  | 0, l, a, w => Region.ready md ops l = [] ∧ Q .normal a w
  | n + 1, l, a, w => (Region.ready md ops l = [] → Q .normal a w) ∧ ∀ j, j ∈ Region.ready md ops l → wpOp P ops Q j (fun a' w' => ((l.setIfInBounds j true).getD c true = false → S w') ∧ tillC P md ops Q S c n (l.setIfInBounds j true) a' w') a w
theorem tillC_any : ∀ (n : Nat) {l : Array Bool} {a : Act} {w : World}, tillC P md ops Q S c n l a w → wpAny P md ops Q n l a w
  | 0, _, _, _, h => h
  | n + 1, _, _, _, h => ⟨h.1, fun j hj => wpOp_mono (fun _ _ k => tillC_any n k.2) (h.2 j hj)⟩
/-- None of cs has come up, nor can one come up ahead of i. -/
def waitB (md : Region.Mode) (ops : Array Oper) (l : Array Bool) (i : Nat) (cs : List Nat) : Bool :=
  cs.all fun c => !(l.getD c true) && !(c == i) && (match ops[c]? with | some o => o.after.any fun e => Region.binds md e && (e.on == i || cs.contains e.on) | none => false)
theorem waitB_at {l : Array Bool} {i : Nat} {cs : List Nat} (h : waitB md ops l i cs = true) {k : Nat} (hk : k ∈ cs) : l.getD k true = false ∧ k ≠ i ∧ ∃ o, ops[k]? = some o ∧ ∃ e ∈ o.after, Region.binds md e = true ∧ (e.on = i ∨ e.on ∈ cs) := by
  have := List.all_eq_true.1 h k hk
  simp only [Bool.and_eq_true, Bool.not_eq_true', beq_eq_false_iff_ne, ne_eq] at this
  obtain ⟨⟨h1, h2⟩, h3⟩ := this
  refine ⟨h1, h2, ?_⟩
  cases ho : ops[k]? with
  | none => rw [ho] at h3; cases h3
  | some o =>
    rw [ho] at h3
    obtain ⟨e, he, hq⟩ := Array.any_eq_true'.1 h3
    simp only [Bool.and_eq_true, Bool.or_eq_true, beq_iff_eq, List.contains_iff_mem] at hq
    exact ⟨o, rfl, e, he, hq.1, hq.2⟩
theorem getD_true_false {l : Array Bool} {k : Nat} (h : l.getD k true = false) : l.getD k false = false := by
  rcases Nat.lt_or_ge k l.size with h' | h'
  · simp [h'] at h ⊢; exact h
  · simp [Array.getElem?_eq_none h'] at h
theorem waitB_step {l : Array Bool} {i j : Nat} {cs : List Nat} (h : waitB md ops l i cs = true) (hi : l.getD i true = false) (hj : j ∈ Region.ready md ops l) : j ∉ cs := by
  intro hm
  obtain ⟨_, _, o, ho, e, he, hb, hor⟩ := waitB_at h hm
  obtain ⟨_, o', ho', hall⟩ := mem_ready.1 hj
  rw [ho] at ho'
  cases ho'
  have h1 := hall e he hb
  rcases hor with q | q
  · rw [q, getD_true_false hi] at h1; cases h1
  · rw [getD_true_false (waitB_at h q).1] at h1; cases h1
theorem waitB_set {l : Array Bool} {i j : Nat} {cs : List Nat} (h : waitB md ops l i cs = true) (hj : j ∉ cs) : waitB md ops (l.setIfInBounds j true) i cs = true := by
  apply List.all_eq_true.2
  intro k hk
  have := List.all_eq_true.1 h k hk
  rw [getD_set_ne true (show j ≠ k from fun e => hj (by rw [e]; exact hk))]
  exact this
theorem tillC_first {i : Nat} {oi : Oper} {v : Value} {cs : List Nat} (hi : ops[i]? = some oi) (hsel : ∀ (j : Nat) (o : Oper) ks b, ops[j]? = some o → o.op ≠ .select ks b) (hc : c ∈ cs)
    (hQ : ∀ p a w, Q (.panic p) (a.put oi.dst v) w → Q (.panic p) a w) : ∀ (n : Nat) {l : Array Bool} {a : Act} {w : World},
      (∀ j oj, ops[j]? = some oj → j ≠ i → l.getD j true = false → (∀ e ∈ oj.after, Region.binds md e = true → e.on ≠ i) → oi.apart ops oj = true) →
      waitB md ops l i cs = true → i ∈ Region.ready md ops l → YieldsIf P ops S oi v a → S w →
      tillC P md ops Q S c n (l.setIfInBounds i true) (a.put oi.dst v) w → tillC P md ops Q S c (n + 1) l a w := by
  intro n
  induction n with
  | zero =>
    intro l a w _ hw hr hy hS H
    refine ⟨fun h0 => (by rw [h0] at hr; cases hr), fun j hj => ?_⟩
    by_cases e : j = i
    · subst e; exact hy.wpOp hi hS ⟨fun _ => hS, H⟩
    · have := ready_mono hj e
      rw [H.1] at this
      cases this
  | succ n ih =>
    intro l a w hfree hw hr hy hS H
    refine ⟨fun h0 => (by rw [h0] at hr; cases hr), fun j hj => ?_⟩
    by_cases e : j = i
    · subst e; exact hy.wpOp hi hS ⟨fun _ => hS, H⟩
    · have hil := (mem_ready.1 hr).1
      have hjc := waitB_step hw hil hj
      have h1 := H.2 j (ready_mono hj e)
      obtain ⟨hjun, oj, hoj, hall⟩ := mem_ready.1 hj
      have hnot : ∀ e ∈ oj.after, Region.binds md e = true → e.on ≠ i := fun e he hb heq => by
        have q := hall e he hb
        rw [heq, getD_true_false hil] at q
        cases q
      have h2 := wpOp_putIf hoj (hfree j oj hoj e hjun hnot) (fun ks b => hsel i oi ks b hi) (fun ks b => hsel j oj ks b hoj) hQ hy h1
      have hfree' : ∀ k ok, ops[k]? = some ok → k ≠ i → (l.setIfInBounds j true).getD k true = false → (∀ e ∈ ok.after, Region.binds md e = true → e.on ≠ i) → oi.apart ops ok = true := fun k ok hk hki hun hno => by
        refine hfree k ok hk hki ?_ hno
        by_cases q : j = k
        · subst q; exact hjun
        · rw [getD_set_ne true q] at hun; exact hun
      have hcj : j ≠ c := fun q => hjc (q ▸ hc)
      have hci : i ≠ c := fun q => (waitB_at hw hc).2.1 q.symm
      have hcf : (((l.setIfInBounds i true).setIfInBounds j true).getD c true) = false := by
        rw [getD_set_ne true hcj, getD_set_ne true hci]
        exact (waitB_at hw hc).1
      refine wpOp_mono (fun a' w' h3 => ⟨fun _ => h3.2.1 hcf, ih hfree' (waitB_set hw hjc) (ready_mono hr (Ne.symm e)) h3.1 (h3.2.1 hcf) ?_⟩) h2
      rw [Array.setIfInBounds_comm _ _ e]
      exact h3.2.2
/-- Number i is taken first. -/
theorem tillC_take {i : Nat} {oi : Oper} {v : Value} {cs : List Nat} {n : Nat} {l : Array Bool} {a : Act} {w : World} (hi : ops[i]? = some oi) (hs : Region.noSelect ops = true) (hf : Region.free md ops l i = true) (hr : (Region.ready md ops l).contains i = true)
    (hc : cs.contains c = true) (hw : waitB md ops l i cs = true) (hQ : ∀ p a w, Q (.panic p) (a.put oi.dst v) w → Q (.panic p) a w) (hy : YieldsIf P ops S oi v a) (hS : S w)
    (h : tillC P md ops Q S c n (l.setIfInBounds i true) (a.put oi.dst v) w) : tillC P md ops Q S c (n + 1) l a w :=
  tillC_first hi (Region.noSelect_spec hs) (by simpa using hc) hQ n (Region.free_spec hi hf) hw (by simpa using hr) hy hS h
theorem tillC_free {i : Nat} {oi : Oper} {v : Value} (hi : ops[i]? = some oi) (hsel : ∀ (j : Nat) (o : Oper) ks b, ops[j]? = some o → o.op ≠ .select ks b) (hic : i ≠ c)
    (hQ : ∀ p a w, Q (.panic p) (a.put oi.dst v) w → Q (.panic p) a w) : ∀ (n : Nat) {l : Array Bool} {a : Act} {w : World},
      (∀ j oj, ops[j]? = some oj → j ≠ i → l.getD j true = false → (∀ e ∈ oj.after, Region.binds md e = true → e.on ≠ i) → oi.apart ops oj = true) →
      i ∈ Region.ready md ops l → YieldsIf P ops (fun _ => True) oi v a → (l.getD c true = false → S w) →
      tillC P md ops Q S c n (l.setIfInBounds i true) (a.put oi.dst v) w → tillC P md ops Q S c (n + 1) l a w := by
  intro n
  induction n with
  | zero =>
    intro l a w _ hr hy hS H
    refine ⟨fun h0 => (by rw [h0] at hr; cases hr), fun j hj => ?_⟩
    by_cases e : j = i
    · subst e; exact hy.wpOp hi trivial ⟨fun q => hS (by rw [getD_set_ne true hic] at q; exact q), H⟩
    · have := ready_mono hj e
      rw [H.1] at this
      cases this
  | succ n ih =>
    intro l a w hfree hr hy hS H
    refine ⟨fun h0 => (by rw [h0] at hr; cases hr), fun j hj => ?_⟩
    by_cases e : j = i
    · subst e; exact hy.wpOp hi trivial ⟨fun q => hS (by rw [getD_set_ne true hic] at q; exact q), H⟩
    · have hil := (mem_ready.1 hr).1
      have h1 := H.2 j (ready_mono hj e)
      obtain ⟨hjun, oj, hoj, hall⟩ := mem_ready.1 hj
      have hnot : ∀ e ∈ oj.after, Region.binds md e = true → e.on ≠ i := fun e he hb heq => by
        have q := hall e he hb
        rw [heq, getD_true_false hil] at q
        cases q
      have h2 := wpOp_putIf hoj (hfree j oj hoj e hjun hnot) (fun ks b => hsel i oi ks b hi) (fun ks b => hsel j oj ks b hoj) hQ hy h1
      have hfree' : ∀ k ok, ops[k]? = some ok → k ≠ i → (l.setIfInBounds j true).getD k true = false → (∀ e ∈ ok.after, Region.binds md e = true → e.on ≠ i) → oi.apart ops ok = true := fun k ok hk hki hun hno => by
        refine hfree k ok hk hki ?_ hno
        by_cases q : j = k
        · subst q; exact hjun
        · rw [getD_set_ne true q] at hun; exact hun
      have hcf : (((l.setIfInBounds i true).setIfInBounds j true).getD c true) = ((l.setIfInBounds j true).getD c true) := by
        rw [Array.setIfInBounds_comm _ _ (Ne.symm e), getD_set_ne true hic]
      refine wpOp_mono (fun a' w' h3 => ⟨fun q => h3.2.1 (hcf.trans q), ih hfree' (ready_mono hr (Ne.symm e)) h3.1 (fun q => h3.2.1 (hcf.trans q)) ?_⟩) h2
      rw [Array.setIfInBounds_comm _ _ e]
      exact h3.2.2
/-- Number i is taken first, whatever the world is. -/
theorem tillC_pure {i : Nat} {oi : Oper} {v : Value} {n : Nat} {l : Array Bool} {a : Act} {w : World} (hi : ops[i]? = some oi) (hs : Region.noSelect ops = true) (hf : Region.free md ops l i = true) (hr : (Region.ready md ops l).contains i = true)
    (hic : (i == c) = false) (hQ : ∀ p a w, Q (.panic p) (a.put oi.dst v) w → Q (.panic p) a w) (hy : YieldsIf P ops (fun _ => True) oi v a) (hS : S w)
    (h : tillC P md ops Q S c n (l.setIfInBounds i true) (a.put oi.dst v) w) : tillC P md ops Q S c (n + 1) l a w :=
  tillC_free hi (Region.noSelect_spec hs) (by simpa using hic) hQ n (Region.free_spec hi hf) (by simpa using hr) hy (fun _ => hS) h
/-- A call of a Go function, as one step. -/
theorem step_enter {o : Oper} {a : Act} {w : World} {K : Act → World → Prop} {E : Prop} (hgd : o.guard = none) {F : FuncId} {args : Array Value} (hrun : (execOp a.eval o).run P w = .ok (.enter F args) w)
    (hc : Calls P F args w fun
      | .returned v, w'' => K (a.put o.dst v) w''
      | .panicked chain, w'' => Q (.panic chain) a w''
      | .outgrown, _ => LetsOut Q) : if Region.wanted o (yielded ops a.tmps) = true then Oper.wp P o a w K Q else E := by
  rw [if_pos (show Region.wanted o (yielded ops a.tmps) = true by simp [Region.wanted, hgd])]
  unfold Oper.wp
  rw [hrun]
  exact hc
/-- Number i alone may come up, ahead of c. -/
theorem tillC_one {i : Nat} {o : Oper} {n : Nat} {l : Array Bool} {a : Act} {w : World} (hr : Region.ready md ops l = [i]) (ho : ops[i]? = some o)
    (h : ∀ K : Act → World → Prop, Go.Shut (∀ a w, S w → (S w → tillC P md ops Q S c n (l.setIfInBounds i true) a w) → K a w) → if Region.wanted o (yielded ops a.tmps) = true then Oper.wp P o a w K Q else K (a.put o.dst undef) w) : tillC P md ops Q S c (n + 1) l a w := by
  refine ⟨fun h0 => (by rw [hr] at h0; cases h0), fun j hj => ?_⟩
  rw [hr] at hj
  obtain rfl := List.mem_singleton.1 hj
  exact wpOp_step ho (fun K hK => h K (fun a w hS hW => hK a w ⟨fun _ => hS, hW hS⟩))
/-- From c on: whatever order. -/
theorem tillC_off {n : Nat} {l : Array Bool} {a : Act} {w : World} (hl : l.getD c true = true) : wpAny P md ops Q n l a w → tillC P md ops Q S c n l a w := by
  induction n generalizing l a w with
  | zero => exact id
  | succ n ih =>
    intro h
    refine ⟨h.1, fun j hj => wpOp_mono (fun a' w' k => ?_) (h.2 j hj)⟩
    have hl' : (l.setIfInBounds j true).getD c true = true := by
      by_cases q : j = c
      · subst q
        rcases Nat.lt_or_ge j l.size with h' | h'
        · simp [h']
        · simp
      · rw [getD_set_ne true q]; exact hl
    exact ⟨fun e => by (rw [hl'] at e; cases e), ih hl' k⟩
theorem tillC_c {o : Oper} {n : Nat} {l : Array Bool} {a : Act} {w : World} (hr : Region.ready md ops l = [c]) (ho : ops[c]? = some o)
    (h : ∀ K : Act → World → Prop, Go.Shut (∀ a w, wpAny P md ops Q n (l.setIfInBounds c true) a w → K a w) → if Region.wanted o (yielded ops a.tmps) = true then Oper.wp P o a w K Q else K (a.put o.dst undef) w) : tillC P md ops Q S c (n + 1) l a w := by
  refine ⟨fun h0 => (by rw [hr] at h0; cases h0), fun j hj => ?_⟩
  rw [hr] at hj
  obtain rfl := List.mem_singleton.1 hj
  have hl : (l.setIfInBounds j true).getD j true = true := by
    rcases Nat.lt_or_ge j l.size with h' | h'
    · simp [h']
    · simp
  exact wpOp_step ho (fun K hK => h K (fun a w hW => hK a w ⟨fun e => by (rw [hl] at e; cases e), tillC_off hl hW⟩))
theorem any_one {i : Nat} {o : Oper} {n : Nat} {l : Array Bool} {a : Act} {w : World} (hr : Region.ready md ops l = [i]) (ho : ops[i]? = some o)
    (h : ∀ K : Act → World → Prop, Go.Shut (∀ a w, wpAny P md ops Q n (l.setIfInBounds i true) a w → K a w) → if Region.wanted o (yielded ops a.tmps) = true then Oper.wp P o a w K Q else K (a.put o.dst undef) w) : wpAny P md ops Q (n + 1) l a w := by
  refine ⟨fun h0 => (by rw [hr] at h0; cases h0), fun j hj => ?_⟩
  rw [hr] at hj
  obtain rfl := List.mem_singleton.1 hj
  exact wpOp_step ho (fun K hK => h K hK)
/-- The beginning. -/
theorem region_till {id : Nat} {a : Act} {w : World} (c : Nat) (hm : P.follows .mixedOrders = true) (hS : S w.drew)
    (h : S w.drew → tillC P .any ops Q S c ops.size (Array.replicate ops.size false) a w.drew) : (Code.region id ops true).wp P Q a w :=
  wp_region_any hm (tillC_any _ (h hS))
end
end Go.Proofs.YtcbgcjkcfolcoaaDoor
