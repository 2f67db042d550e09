/-
  Programs as trees, and how they lie in memory.
  Nodes are begun.
  A node's kids are appended to.
  The reader of programs as plain functions.
  Lists of nodes that are being made.
  Lists with commas between.
-/
import Derived.Test.YtndgajlidckcdaaGreatDoorB05
import Derived.Deep.AppendLies
namespace Go.Proofs.YtndgajlidckcdaaGreatDoor
open Go.RowKit

/-- A part of a program. -/
structure Tree where
  kind : Nat
  text : ByteArray
  under : ByteArray
  n : Int
  line : Nat
  kids : List Tree

/-- The cells of a node. -/
def ncells (k : Nat) (tx un : ByteArray) (n : Int) (ln : Nat) (ks : Value) : Array Value := #[.int .i64 k, .string tx, .string un, .int .i64 n, .int .i64 ln, ks]

/-- A list of nodes in memory: nil, or a row of pointers in a block of its own. -/
def Row (A : Nat → Prop) (w : World) (ks : Value) (vs : List Value) : Prop :=
  (ks = .slice none 0 0 ∧ vs = []) ∨
  ∃ g cap cur, ks = .slice (some ⟨g, 0, none⟩) vs.length cap ∧ A g ∧ w.heap[g]? = some (.cells cur 22 (0, 0)) ∧ vs.length ≤ cap ∧ cap ≤ maxLen ∧ cur.size = cap ∧ cur.toList.take vs.length = vs

/-- A value leads to a tree, all of it in blocks of which A holds. -/
def NodeAt (A : Nat → Prop) (w : World) (v : Value) : Tree → Prop
  | ⟨k, tx, un, n, ln, kids⟩ => ∃ b t ks vs, v = .pointer (some ⟨b, 0, none⟩) ∧ A b ∧ w.heap[b]? = some (.cells (ncells k tx un n ln ks) t (0, 0)) ∧ Row A w ks vs ∧ vs.length = kids.length ∧
    ∀ (i : Nat) (h : i < kids.length), have : SizeOf.sizeOf kids[i] < SizeOf.sizeOf kids := List.sizeOf_lt_of_mem (List.getElem_mem h); NodeAt A w (vs.getD i undef) kids[i]

theorem tree_ind (P : Tree → Prop) (h : ∀ t, (∀ k ∈ t.kids, P k) → P t) : ∀ t, P t
  | ⟨_, _, _, _, _, _⟩ => h _ fun k _ => tree_ind P h k

theorem NodeAt_iff (A : Nat → Prop) (w : World) (v : Value) (t : Tree) : NodeAt A w v t ↔ ∃ b ty ks vs, v = .pointer (some ⟨b, 0, none⟩) ∧ A b ∧ w.heap[b]? = some (.cells (ncells t.kind t.text t.under t.n t.line ks) ty (0, 0)) ∧ Row A w ks vs ∧ vs.length = t.kids.length ∧
    ∀ (i : Nat) (h : i < t.kids.length), NodeAt A w (vs.getD i undef) t.kids[i] := by
  obtain ⟨k, tx, un, n, ln, kids⟩ := t
  rw [NodeAt]

theorem Row.keep {A A' : Nat → Prop} {w w' : World} {ks : Value} {vs : List Value} (h : Row A w ks vs) (hA : ∀ k, A k → A' k) (hk : ∀ k, A k → k < w.heap.size → w'.heap[k]? = w.heap[k]?) : Row A' w' ks vs := by
  rcases h with h | ⟨g, cap, cur, h1, h2, h3, h4⟩
  · exact Or.inl h
  · exact Or.inr ⟨g, cap, cur, h1, hA g h2, (hk g h2 (Array.getElem?_eq_some_iff.1 h3).1).trans h3, h4⟩

theorem NodeAt.keep {A A' : Nat → Prop} {w w' : World} (hA : ∀ k, A k → A' k) (hk : ∀ k, A k → k < w.heap.size → w'.heap[k]? = w.heap[k]?) : ∀ (t : Tree) (v : Value), NodeAt A w v t → NodeAt A' w' v t := by
  refine tree_ind _ fun t ih v h => ?_
  rw [NodeAt_iff] at h ⊢
  obtain ⟨b, ty, ks, vs, h1, h2, h3, h4, h5, h6⟩ := h
  exact ⟨b, ty, ks, vs, h1, hA b h2, (hk b h2 (Array.getElem?_eq_some_iff.1 h3).1).trans h3, h4.keep hA hk, h5, fun i hi => ih _ (List.getElem_mem hi) _ (h6 i hi)⟩

/-- Behind a call that leaves all but the reader's block. -/
theorem NodeAt.ext {A : Nat → Prop} {w w' : World} {r : Nat} {v : Value} {t : Tree} (h : NodeAt A w v t) (hx : Ext r w w') (hr : ∀ k, A k → k ≠ r) : NodeAt A w' v t :=
  h.keep (fun _ h => h) (fun k hk hl => hx.block k hl (hr k hk)) t v
theorem NodeAt.mono {A A' : Nat → Prop} {w : World} {v : Value} {t : Tree} (h : NodeAt A w v t) (hA : ∀ k, A k → A' k) : NodeAt A' w v t :=
  h.keep hA (fun _ _ _ => rfl) t v

/-- A node that is being made: block b holds it; its kids lie apart from it and from their own row. -/
structure Und (A : Nat → Prop) (w : World) (b : Nat) (k : Nat) (tx un : ByteArray) (n : Int) (ln : Nat) (ts : List Tree) (ks : Value) (vs : List Value) : Prop where
  at' : A b
  cells : ∃ t, w.heap[b]? = some (.cells (ncells k tx un n ln ks) t (0, 0))
  row : Row (fun j => A j ∧ j ≠ b) w ks vs
  len : vs.length = ts.length
  kids : ∀ (i : Nat) (h : i < ts.length), NodeAt (fun j => A j ∧ j ≠ b ∧ some j ≠ ks.ownBlock) w (vs.getD i undef) ts[i]

theorem Und.node {A : Nat → Prop} {w : World} {b k : Nat} {tx un : ByteArray} {n : Int} {ln : Nat} {ts : List Tree} {ks : Value} {vs : List Value} (h : Und A w b k tx un n ln ts ks vs) : NodeAt A w (.pointer (some ⟨b, 0, none⟩)) ⟨k, tx, un, n, ln, ts⟩ := by
  rw [NodeAt_iff]
  obtain ⟨t, hc⟩ := h.cells
  exact ⟨b, t, ks, vs, rfl, h.at', hc, h.row.keep (fun _ h => h.1) (fun _ _ _ => rfl), h.len, fun i hi => (h.kids i hi).mono fun _ h => h.1⟩
theorem Und.ext {A : Nat → Prop} {w w' : World} {r b k : Nat} {tx un : ByteArray} {n : Int} {ln : Nat} {ts : List Tree} {ks : Value} {vs : List Value} (h : Und A w b k tx un n ln ts ks vs) (hx : Ext r w w') (hr : ∀ j, A j → j ≠ r) : Und A w' b k tx un n ln ts ks vs := by
  obtain ⟨t, hc⟩ := h.cells
  exact ⟨h.at', ⟨t, (hx.block b (Array.getElem?_eq_some_iff.1 hc).1 (hr b h.at')).trans hc⟩, h.row.keep (fun _ h => h) (fun j hj hl => hx.block j hl (hr j hj.1)), h.len,
    fun i hi => (h.kids i hi).ext hx fun j hj => hr j hj.1⟩
theorem Und.mono {A A' : Nat → Prop} {w : World} {b k : Nat} {tx un : ByteArray} {n : Int} {ln : Nat} {ts : List Tree} {ks : Value} {vs : List Value} (h : Und A w b k tx un n ln ts ks vs) (hA : ∀ j, A j → A' j) : Und A' w b k tx un n ln ts ks vs :=
  ⟨hA b h.at', h.cells, h.row.keep (fun _ h => ⟨hA _ h.1, h.2⟩) (fun _ _ _ => rfl), h.len, fun i hi => (h.kids i hi).mono fun _ h => ⟨hA _ h.1, h.2⟩⟩

/-- A store into the node's own block. -/
theorem Und.put {A : Nat → Prop} {w : World} {b k : Nat} {tx un : ByteArray} {n : Int} {ln : Nat} {ts : List Tree} {ks : Value} {vs : List Value} (h : Und A w b k tx un n ln ts ks vs) (i : Nat) (v : Value) {k' : Nat} {tx' un' : ByteArray} {n' : Int} {ln' : Nat}
    (hc : (ncells k tx un n ln ks).setIfInBounds i v = ncells k' tx' un' n' ln' ks) : Und A (w.setCell ⟨b, i, none⟩ v) b k' tx' un' n' ln' ts ks vs := by
  obtain ⟨t, hb⟩ := h.cells
  refine ⟨h.at', ⟨t, by rw [hset hb, hc]⟩, h.row.keep (fun _ h => h) (fun j hj _ => hother v hj.2), h.len, fun i hi => (h.kids i hi).keep (fun _ h => h) (fun j hj _ => hother v hj.2.1) _ _⟩

/-- A node just made. -/
theorem Und.fresh {A : Nat → Prop} {w : World} (hA : A w.heap.size) (k : Nat) (tx un : ByteArray) (n : Int) (ln : Nat) (t : TypeId) : Und A (w.alloc (.cells (ncells k tx un n ln (.slice none 0 0)) t)) w.heap.size k tx un n ln [] (.slice none 0 0) [] :=
  ⟨hA, ⟨t, hnew _ _⟩, Or.inl ⟨rfl, rfl⟩, rfl, fun i h => absurd h (Nat.not_lt_zero i)⟩

end Go.Proofs.YtndgajlidckcdaaGreatDoor

namespace Go.Proofs.YtndgajlidckcdaaGreatDoor
open Go.RowKit

/-- No text. -/
def noText : ByteArray := ⟨#[]⟩
/-- A node without kids that was made when the heap was so great. -/
def vNew (lo k : Nat) (tx un : ByteArray) (n : Int) (ln : Nat) (v : Value) (w' : World) : Prop := v = .pointer (some ⟨lo, 0, none⟩) ∧ Und (fun j => lo ≤ j) w' lo k tx un n ln [] (.slice none 0 0) []
/-- A tree made since the heap was so great. -/
def vNode (lo : Nat) (t : Tree) (v : Value) (w' : World) : Prop := NodeAt (fun j => lo ≤ j) w' v t

set_option maxHeartbeats 1000000 in
theorem start_any {w : World} {r : Nat} {S : LS} (cx : Cx w r S) (k : Nat) :
    Calls Tryz.prog 75 #[.pointer (some ⟨r, 0, none⟩), .int .i64 k] w fun e w' => e = .returned (.pointer (some ⟨w.heap.size, 0, none⟩)) ∧ w' = w.alloc (.cells (ncells k noText noText 0 S.tl (.slice none 0 0)) 78) := by
  have c5 := cx.rd.c5
  clear cx
  go_enter Tryz.func75, Tryz.ntmps75
  go_wp2
  go_ret
  exact ⟨rfl, rfl⟩

theorem start_calls {w : World} {r : Nat} {S : LS} (cx : Cx w r S) (k : Nat) :
    Calls Tryz.prog 75 #[.pointer (some ⟨r, 0, none⟩), .int .i64 k] w fun e w' => ∃ v, e = .returned v ∧ vNew w.heap.size k noText noText 0 S.tl v w' ∧ Cx w' r S ∧ Ext r w w' := by
  refine (start_any cx k).mono ?_
  rintro e w' ⟨rfl, rfl⟩
  exact ⟨_, rfl, ⟨rfl, Und.fresh (Nat.le_refl _) _ _ _ _ _ _⟩, cx.alloc _, (Ext.refl r w).alloc _⟩

set_option maxRecDepth 100000 in
set_option maxHeartbeats 1000000 in
theorem taken_any {w : World} {r : Nat} {S : LS} (cx : Cx w r S) (k : Nat) :
    Calls Tryz.prog 110 #[.pointer (some ⟨r, 0, none⟩), .int .i64 k] w fun e w' => Ret (takeP S) r (fun _ => vNew w.heap.size k noText noText 0 S.tl) e w' ∧ Ext r w w' := by
  have hrw := cx.rd.lt
  go_enter Tryz.func110, Tryz.ntmps110
  go_wp2_with fail
  refine (start_calls cx k).mono ?_
  rintro e w1 ⟨v, rfl, ⟨rfl, hu⟩, cx1, hx1⟩
  clear cx
  go_wp2_with fail
  refine Ret.call (take_any cx1) ?_ ?_
  · intro f w2 hf hx
    exact ⟨rfl, Ret.inl hf, hx1.trans hx⟩
  · intro a S1 v w2 hf hv cx2 hx
    obtain rfl : v = S.tok := hv
    have HF := hide hf
    clear hf
    go_wp2_with fail
    go_ret
    exact ⟨Ret.inr (unhide HF) ⟨rfl, hu.ext hx fun j hj => by omega⟩ cx2, hx1.trans hx⟩
end Go.Proofs.YtndgajlidckcdaaGreatDoor

namespace Go.Proofs.YtndgajlidckcdaaGreatDoor
open Go.RowKit

theorem Ret.callX {α : Type} {P : Program} {F : FuncId} {args : Array Value} {w : World} {t : Res α} {r : Nat} {V : α → Value → World → Prop} {X : World → Prop} {R : Ending → World → Prop}
    (hc : Calls P F args w fun e w' => Ret t r V e w' ∧ X w')
    (hp : ∀ f w', t = .inl f → X w' → R (.panicked (thrown f.1 f.2)) w')
    (hk : ∀ a S v w', t = .inr (a, S) → V a v w' → Cx w' r S → X w' → R (.returned v) w') : Calls P F args w R :=
  hc.mono fun e w' ⟨h, hx⟩ => by
    cases ht : t with
    | inl f =>
      rw [ht] at h
      obtain rfl : e = .panicked (thrown f.1 f.2) := h
      exact hp f w' ht hx
    | inr x =>
      rw [ht] at h
      obtain ⟨v, rfl, hv, hcx⟩ := h
      exact hk x.1 x.2 v w' ht hv hcx hx

/-- A call of a Go function as one step of a region that draws its order. -/
theorem step_call {P : Program} {ops : Array Oper} {o : Oper} {a : Act} {w : World} {K : Act → World → Prop} {Q : Exit → Act → World → Prop} {E : Prop} (hgd : o.guard = none) {F : FuncId} {args : Array Value}
    (hrun : (execOp a.eval o).run P w = .ok (.enter F args) w)
    (hc : Calls P F args w fun
      | .returned v, w'' => K (a.put o.dst v) w''
      | .panicked chain, w'' => Q (.panic chain) a w''
      | .outgrown, _ => LetsOut Q) : if Region.wanted o (yielded ops a.tmps) = true then Oper.wp P o a w K Q else E := by
  have hw : Region.wanted o (yielded ops a.tmps) = true := by simp [Region.wanted, hgd]
  rw [if_pos hw]
  unfold Oper.wp
  rw [hrun]
  exact hc

theorem vNode_ptr {lo : Nat} {t : Tree} {v : Value} {w : World} (h : vNode lo t v w) : ∃ kb, v = .pointer (some ⟨kb, 0, none⟩) := by
  unfold vNode at h
  rw [NodeAt_iff] at h
  obtain ⟨b, _, _, _, h1, _⟩ := h
  exact ⟨b, h1⟩

theorem infoNode : (Tryz.prog.info? 22).map (fun i => (i.zero, i.size, i.bytes)) = some (some (.pointer none), 1, 8) := by kernel_rfl

theorem Row.owns {A : Nat → Prop} {w : World} {ks : Value} {vs : List Value} (h : Row A w ks vs) : w.ownsRow 0 22 1 ks vs.length vs := by
  refine ⟨by simp, ?_⟩
  rcases h with ⟨rfl, rfl⟩ | ⟨g, cap, cur, h1, _, h3, h4, h5, h6, h7⟩
  · exact Or.inl ⟨rfl, rfl⟩
  · exact Or.inr ⟨g, cap, cur, h1, Nat.zero_le _, h3, h4, h5, by omega, by simpa using h7⟩
theorem Row.of_owns {A : Nat → Prop} {w : World} {g cap : Nat} {vs : List Value} (h : w.ownsRow 0 22 1 (.slice (some ⟨g, 0, none⟩) vs.length cap) vs.length vs) (hA : A g) : Row A w (.slice (some ⟨g, 0, none⟩) vs.length cap) vs := by
  rcases h.2 with ⟨h, _⟩ | ⟨g', cap', cur, h1, _, h3, h4, h5, h6, h7⟩
  · cases h
  · cases h1
    exact Or.inr ⟨g, cap, cur, rfl, hA, h3, h4, h5, by omega, by simpa using h7⟩

/-- The blocks of a tree are there. -/
theorem NodeAt.lt {A : Nat → Prop} {w : World} : ∀ (t : Tree) (v : Value), NodeAt A w v t → NodeAt (fun j => A j ∧ j < w.heap.size) w v t := by
  refine tree_ind _ fun t ih v h => ?_
  rw [NodeAt_iff] at h ⊢
  obtain ⟨b, ty, ks, vs, h1, h2, h3, h4, h5, h6⟩ := h
  refine ⟨b, ty, ks, vs, h1, ⟨h2, (Array.getElem?_eq_some_iff.1 h3).1⟩, h3, ?_, h5, fun i hi => ih _ (List.getElem_mem hi) _ (h6 i hi)⟩
  rcases h4 with h4 | ⟨g, cap, cur, q1, q2, q3, q4⟩
  · exact Or.inl h4
  · exact Or.inr ⟨g, cap, cur, q1, ⟨q2, (Array.getElem?_eq_some_iff.1 q3).1⟩, q3, q4⟩

/-- A KID MORE: the row has grown by the law of append, and the node leads to it. -/
theorem Und.more {lo : Nat} {w w1 : World} {b k : Nat} {tx un : ByteArray} {n : Int} {ln : Nat} {ts : List Tree} {ks : Value} {vs : List Value} (h : Und (fun j => lo ≤ j) w b k tx un n ln ts ks vs)
    {x : Value} {t : Tree} (hx : NodeAt (fun j => lo ≤ j ∧ j ≠ b ∧ some j ≠ ks.ownBlock) w x t) {g cap : Nat} (hown : w1.ownsRow 0 22 1 (.slice (some ⟨g, 0, none⟩) (vs.length + 1) cap) (vs.length + 1) (vs ++ [x]))
    (hg : w.grownBy w1 ks.ownBlock) (hat : ks.ownBlock = some g ∨ g = w.heap.size) (hlo : lo ≤ w.heap.size) :
    Und (fun j => lo ≤ j) (w1.setCell ⟨b, 5, none⟩ (.slice (some ⟨g, 0, none⟩) (vs.length + 1) cap)) b k tx un n ln (ts ++ [t]) (.slice (some ⟨g, 0, none⟩) (vs.length + 1) cap) (vs ++ [x]) := by
  obtain ⟨t0, hb⟩ := h.cells
  have hbl := (Array.getElem?_eq_some_iff.1 hb).1
  have hbk : some b ≠ ks.ownBlock := by
    rcases h.row with ⟨rfl, _⟩ | ⟨g', cap', cur, rfl, hg', _⟩
    · simp [Value.ownBlock]
    · intro e
      simp only [Value.ownBlock, Option.some.injEq] at e
      exact hg'.2 e.symm
  have hgb : g ≠ b := by
    rcases hat with e | e
    · intro e'; rw [e'] at e; exact hbk e.symm
    · omega
  have hglo : lo ≤ g := by
    rcases hat with e | e
    · rcases h.row with ⟨rfl, _⟩ | ⟨g', cap', cur, rfl, hg', _⟩
      · simp [Value.ownBlock] at e
      · simp only [Value.ownBlock, Option.some.injEq] at e
        rw [← e]; exact hg'.1
    · omega
  have hb1 : w1.heap[b]? = some (.cells (ncells k tx un n ln ks) t0 (0, 0)) := (hg.block b hbl hbk).trans hb
  have keepK : ∀ (v : Value) (u : Tree), NodeAt (fun j => lo ≤ j ∧ j ≠ b ∧ some j ≠ ks.ownBlock) w v u → NodeAt (fun j => lo ≤ j ∧ j ≠ b ∧ some j ≠ some g) (w1.setCell ⟨b, 5, none⟩ (.slice (some ⟨g, 0, none⟩) (vs.length + 1) cap)) v u := fun v u hu =>
    (hu.lt u v).keep (fun j hj => ⟨hj.1.1, hj.1.2.1, fun e => by
      have e' : j = g := by simpa using e
      rcases hat with q | q
      · exact hj.1.2.2 (by rw [q, e'])
      · have := hj.2; omega⟩) (fun j hj hl => (hother _ hj.1.2.1).trans (hg.block j hl hj.1.2.2)) u v
  have hlen := h.len
  refine ⟨h.at', ⟨t0, by rw [hset hb1]; rfl⟩, ?_, by simp [h.len], ?_⟩
  · have hrow : Row (fun j => lo ≤ j ∧ j ≠ b) w1 (.slice (some ⟨g, 0, none⟩) (vs ++ [x]).length cap) (vs ++ [x]) := Row.of_owns (by simpa using hown) ⟨hglo, hgb⟩
    have := hrow.keep (A' := fun j => lo ≤ j ∧ j ≠ b) (w' := w1.setCell ⟨b, 5, none⟩ (.slice (some ⟨g, 0, none⟩) (vs.length + 1) cap)) (fun _ h => h) (fun j hj _ => hother _ hj.2)
    simpa using this
  · intro i hi
    by_cases hi' : i < ts.length
    · have := keepK _ _ (h.kids i hi')
      have e1 : (vs ++ [x]).getD i undef = vs.getD i undef := by simp [List.getD, List.getElem?_append_left (show i < vs.length by omega)]
      rw [e1, List.getElem_append_left hi']
      exact this
    · have hi2 : i = ts.length := by simp at hi; omega
      subst hi2
      have := keepK _ _ hx
      have e1 : (vs ++ [x]).getD ts.length undef = x := by simp [List.getD, ← hlen]
      have e2 : (ts ++ [t])[ts.length]'hi = t := by simp
      rw [e1, e2]
      exact this

/-- Behind the call that reads a kid: the node stands as it did. -/
theorem kid_call {lo : Nat} {w w2 : World} {r b k : Nat} {tx un : ByteArray} {n : Int} {ln : Nat} {ts : List Tree} {ks : Value} {vs : List Value} (hu : Und (fun j => lo ≤ j) w b k tx un n ln ts ks vs) (hx : Ext r w w2) (hr : r < lo) :
    w2.cell? ⟨b, 5, none⟩ = some ks ∧ (∀ o, (w2.alloc o).cell? ⟨b, 5, none⟩ = some ks) ∧ Hid (w2.ownsRow 0 22 1 ks vs.length vs) ∧ Hid (Und (fun j => lo ≤ j) w2 b k tx un n ln ts ks vs) := by
  have hu2 := hu.ext hx fun j hj => by omega
  obtain ⟨t, hb⟩ := hu2.cells
  exact ⟨hcell hb 5, fun o => hcell ((hold _ _ (Array.getElem?_eq_some_iff.1 hb).1).trans hb) 5, hu2.row.owns, hu2⟩

/-- Behind the append, and behind the store: the node has one kid more. -/
theorem kid_more {lo : Nat} {w0 w w2 w3 : World} {r b k : Nat} {S : LS} {tx un : ByteArray} {n : Int} {ln : Nat} {ts : List Tree} {ks : Value} {vs : List Value} (hlo0 : lo = w0.heap.size) (hu : Und (fun j => lo ≤ j) w b k tx un n ln ts ks vs) (hu2 : Und (fun j => lo ≤ j) w2 b k tx un n ln ts ks vs)
    (hr : r + 18 < lo) (cx : Cx w2 r S) (hx0 : Ext r w0 w2) {x : Value} {t : Tree} (hv : vNode w.heap.size t x w2) (o : Obj) {g cap : Nat}
    (hown : w3.ownsRow 0 22 1 (.slice (some ⟨g, 0, none⟩) (vs.length + 1) cap) (vs.length + 1) (vs ++ [x]))
    (hg : (w2.alloc o).grownBy w3 ks.ownBlock) (hat : ks.ownBlock = some g ∨ g = w2.heap.size + 1) :
    w3.cell? ⟨b, 5, none⟩ = some ks ∧ w3.frozen? ⟨b, 5, none⟩ = false ∧
    Hid (Und (fun j => lo ≤ j) (w3.setCell ⟨b, 5, none⟩ (.slice (some ⟨g, 0, none⟩) (vs.length + 1) cap)) b k tx un n ln (ts ++ [t]) (.slice (some ⟨g, 0, none⟩) (vs.length + 1) cap) (vs ++ [x])) ∧
    Hid (Ext r w0 (w3.setCell ⟨b, 5, none⟩ (.slice (some ⟨g, 0, none⟩) (vs.length + 1) cap))) ∧ Hid (Cx (w3.setCell ⟨b, 5, none⟩ (.slice (some ⟨g, 0, none⟩) (vs.length + 1) cap)) r S) := by
  obtain ⟨t0, hb⟩ := hu.cells
  obtain ⟨t2, hb2⟩ := hu2.cells
  have hbw := (Array.getElem?_eq_some_iff.1 hb).1
  have hb2w := (Array.getElem?_eq_some_iff.1 hb2).1
  have hblo : lo ≤ b := hu.at'
  have hkw : ∀ j, ks.ownBlock = some j → j < w.heap.size ∧ lo ≤ j ∧ j ≠ b := by
    intro j hj
    rcases hu.row with ⟨rfl, _⟩ | ⟨g', cap', cur, rfl, hg', h3, _⟩
    · simp [Value.ownBlock] at hj
    · simp only [Value.ownBlock, Option.some.injEq] at hj
      subst hj
      exact ⟨(Array.getElem?_eq_some_iff.1 h3).1, hg'.1, hg'.2⟩
  have hbk : some b ≠ ks.ownBlock := fun e => (hkw b e.symm).2.2 rfl
  have hsz : lo ≤ w2.heap.size := by rw [hlo0]; exact hx0.size
  have hrk : some r ≠ ks.ownBlock := fun e => by have := (hkw r e.symm).2.1; omega
  have hb3 : w3.heap[b]? = some (.cells (ncells k tx un n ln ks) t2 (0, 0)) := by
    rw [hg.block b (by simp; omega) hbk, hold _ _ hb2w]
    exact hb2
  have hrx : r < w2.heap.size := cx.rd.lt
  have hxa : Ext r w0 (w2.alloc o) := hx0.alloc o
  have hx3 : Ext r w0 w3 := ext_grown hxa hg fun j hj => by have := (hkw j hj).2.1; omega
  have hx3' : Ext r w0 (w3.setCell ⟨b, 5, none⟩ (.slice (some ⟨g, 0, none⟩) (vs.length + 1) cap)) := hx3.setNew ⟨b, 5, none⟩ (by show w0.heap.size ≤ b; omega) _
  have hcx3 : Cx w3 r S := by
    have ca := cx.alloc o
    have far := cx.tabs.far
    have hjc := ca.jc.keep (w' := w3) fun j _ h2 h3 => hg.block j h3 fun e => by have := (hkw j e.symm).2.1; omega
    have hjn := ca.jn
    have ht := ca.tabs.keep (w' := w3) fun j h1 h2 => hg.block j h2 fun e => by have := (hkw j e.symm).2.1; omega
    obtain ⟨⟨t, hr1⟩, ok, _, _, _⟩ := ca
    exact ⟨⟨t, (hg.block r (by simp; omega) hrk).trans hr1⟩, ok, ht, hjc, hjn⟩
  refine ⟨hcell hb3 5, hfroz hb3 5, ?_, hx3', hcx3.setCell (by omega) _ _⟩
  have hua : Und (fun j => lo ≤ j) (w2.alloc o) b k tx un n ln ts ks vs := hu2.ext (r := r) ((Ext.refl r w2).alloc o) fun j hj => by omega
  have hva : NodeAt (fun j => lo ≤ j ∧ j ≠ b ∧ some j ≠ ks.ownBlock) (w2.alloc o) x t := by
    refine NodeAt.keep (fun j hj => ⟨by omega, by omega, fun e => ?_⟩) (fun j hj hl => hold _ _ hl) t x hv
    have := (hkw j e.symm).1
    omega
  exact Und.more hua hva hown hg (by simpa using hat) (by simp; omega)
end Go.Proofs.YtndgajlidckcdaaGreatDoor

namespace Go.Proofs.YtndgajlidckcdaaGreatDoor
open Go.RowKit

theorem bnd_some {α β : Type} {t : Res α} {k : α → LS → Res β} {x : β × LS} (h : bnd t k = .inr x) : ∃ a S, t = .inr (a, S) ∧ k a S = .inr x := by
  cases ht : t with
  | inl f => rw [ht] at h; cases h
  | inr y => rw [ht] at h; exact ⟨y.1, y.2, rfl, h⟩

/-- Behind what was read the reader stands further on. -/
structure On (S S' : LS) : Prop where
  ok : Ok S'
  same : Same S S'
  tp : S.tp < S'.tp
structure On0 (S S' : LS) : Prop where
  ok : Ok S'
  same : Same S S'
  tp : S.tp ≤ S'.tp
theorem On.weak {S S' : LS} (h : On S S') : On0 S S' := ⟨h.ok, h.same, Nat.le_of_lt h.tp⟩
theorem On0.refl {S : LS} (h : Ok S) : On0 S S := ⟨h, Same.refl S, Nat.le_refl _⟩
theorem On0.trans {a b c : LS} (h : On0 a b) (k : On0 b c) : On0 a c := ⟨k.ok, h.same.trans k.same, Nat.le_trans h.tp k.tp⟩
theorem On.trans0 {a b c : LS} (h : On a b) (k : On0 b c) : On a c := ⟨k.ok, h.same.trans k.same, Nat.lt_of_lt_of_le h.tp k.tp⟩
theorem On0.trans1 {a b c : LS} (h : On0 a b) (k : On b c) : On a c := ⟨k.ok, h.same.trans k.same, Nat.lt_of_le_of_lt h.tp k.tp⟩
theorem On.trans {a b c : LS} (h : On a b) (k : On b c) : On a c := h.trans0 k.weak

def Good {α : Type} (P : LS → Res α) : Prop := ∀ S a S', Ok S → P S = .inr (a, S') → On S S'
def Good0 {α : Type} (P : LS → Res α) : Prop := ∀ S a S', Ok S → P S = .inr (a, S') → On0 S S'
theorem Good.weak {α : Type} {P : LS → Res α} (h : Good P) : Good0 P := fun S a S' ok e => (h S a S' ok e).weak

theorem take_on {S S' : LS} {a : Unit} (ok : Ok S) (hk : S.kd ≠ 0) (h : takeP S = .inr (a, S')) : On S S' := by
  have := advP_ok ok.fit (takeP_ok h)
  exact ⟨this.1, this.2.2, Nat.lt_of_lt_of_le (ok.now hk) this.2.1⟩
theorem is_kd {S : LS} {m : ByteArray} (h : S.is m = true) : S.kd ≠ 0 := by
  unfold LS.is at h
  simp at h
  omega
theorem accept_on {S S' : LS} {m : ByteArray} {b : Bool} (ok : Ok S) (h : acceptP m S = .inr (b, S')) : On0 S S' ∧ (b = true → On S S') ∧ (b = false → S' = S) := by
  unfold acceptP at h
  split at h
  · rename_i hi
    obtain ⟨a, S1, h1, h2⟩ := bnd_some h
    cases h2
    have := take_on ok (is_kd hi) h1
    exact ⟨this.weak, fun _ => this, fun e => absurd e (by decide)⟩
  · cases h
    exact ⟨On0.refl ok, fun e => absurd e (by decide), fun _ => rfl⟩
theorem want_on {S S' : LS} {m : ByteArray} {a : Unit} (ok : Ok S) (h : wantP m S = .inr (a, S')) : On S S' := by
  unfold wantP at h
  split at h
  · rename_i hi
    exact take_on ok (is_kd hi) h
  · cases h
theorem name_on {S S' : LS} {s : ByteArray} (ok : Ok S) (h : nameP S = .inr (s, S')) : On S S' := by
  unfold nameP at h
  split at h
  · rename_i hi
    obtain ⟨a, S1, h1, h2⟩ := bnd_some h
    cases h2
    exact take_on ok (by omega) h1
  · cases h
theorem limit_on {S S' : LS} {n : Nat} {a : Unit} (h : limitP n S = .inr (a, S')) : S' = S := by
  unfold limitP at h
  split at h
  · cases h
  · cases h; rfl

/-- What reads a value, a statement, and a part behind - or !, one deeper. -/
structure Low where
  V : LS → Res Tree
  S : LS → Res Tree
  N : LS → Res Tree

structure LowGood (L : Low) : Prop where
  v : Good L.V
  s : Good L.S
  n : Good L.N

def leafP (k : Nat) (S : LS) : Res Tree := bnd (takeP S) fun _ S1 => .inr (⟨k, S.tx, noText, S.nn, S.tl, []⟩, S1)
def paramP (S : LS) : Res Tree := bnd (nameP S) fun s S1 => .inr (⟨24, s, noText, 0, S.tl, []⟩, S1)
theorem paramP_good : Good paramP := fun S a S' ok h => by
  obtain ⟨s, S1, h1, h2⟩ := bnd_some h
  cases h2
  exact name_on ok h1

def tComma : ByteArray := ⟨#[44]⟩
def tOpen : ByteArray := ⟨#[40]⟩
def tShut : ByteArray := ⟨#[41]⟩
def tLeft : ByteArray := ⟨#[123]⟩
def tRight : ByteArray := ⟨#[125]⟩
def tSquare : ByteArray := ⟨#[91]⟩
def tSquared : ByteArray := ⟨#[93]⟩
def tSemi : ByteArray := ⟨#[59]⟩
def tDot : ByteArray := ⟨#[46]⟩
def tEqual : ByteArray := ⟨#[61]⟩
def tLess : ByteArray := ⟨#[60]⟩
def tMinus : ByteArray := ⟨#[45]⟩
def tNot : ByteArray := ⟨#[33]⟩

def listLoop (shut : ByteArray) (P : LS → Res Tree) : Nat → List Tree → LS → Res (List Tree)
  | 0, _, S => .inl (0, S.tp)
  | f + 1, acc, S => bnd (limitP acc.length S) fun _ S0 => bnd (P S0) fun t S1 => bnd (acceptP shut S1) fun b S2 =>
    if b = true then .inr (acc ++ [t], S2) else bnd (wantP tComma S2) fun _ S3 => listLoop shut P f (acc ++ [t]) S3
def listedP (shut : ByteArray) (P : LS → Res Tree) (S : LS) : Res (List Tree) := bnd (acceptP shut S) fun b S1 => if b = true then .inr ([], S1) else listLoop shut P 9 [] S1

theorem listLoop_on {shut : ByteArray} {P : LS → Res Tree} (hP : Good P) : ∀ (f : Nat) (acc l : List Tree) (S S' : LS), Ok S → listLoop shut P f acc S = .inr (l, S') → On S S'
  | 0, acc, l, S, S', ok, h => by cases h
  | f + 1, acc, l, S, S', ok, h => by
    rw [listLoop] at h
    obtain ⟨_, S0, h0, h'⟩ := bnd_some h
    clear h
    obtain rfl := limit_on h0
    obtain ⟨t, S1, h1, h⟩ := bnd_some h'
    have o1 := hP _ _ _ ok h1
    obtain ⟨b, S2, h2, h⟩ := bnd_some h
    have o2 := accept_on o1.ok h2
    split at h
    · cases h
      exact o1.trans0 o2.1
    · obtain ⟨_, S3, h3, h⟩ := bnd_some h
      have o3 := want_on o2.1.ok h3
      exact ((o1.trans0 o2.1).trans o3).trans (listLoop_on hP f _ l S3 S' o3.ok h)
theorem listedP_good {shut : ByteArray} {P : LS → Res Tree} (hP : Good P) : Good (listedP shut P) := fun S l S' ok h => by
  obtain ⟨b, S1, h1, h'⟩ := bnd_some h
  clear h
  have o1 := accept_on ok h1
  cases b with
  | true =>
    cases h'
    exact o1.2.1 rfl
  | false =>
    obtain rfl := o1.2.2 rfl
    exact listLoop_on hP _ _ _ _ _ ok h'

def paramsP (S : LS) : Res Tree := bnd (wantP tOpen S) fun _ S1 => bnd (listedP tShut paramP S1) fun ks S2 => .inr (⟨6, noText, noText, 0, S.tl, ks⟩, S2)
theorem paramsP_good : Good paramsP := fun S a S' ok h => by
  obtain ⟨_, S1, h1, h⟩ := bnd_some h
  obtain ⟨ks, S2, h2, h⟩ := bnd_some h
  cases h
  exact (want_on ok h1).trans (listedP_good paramP_good _ _ _ (want_on ok h1).ok h2)

/-- Parts one behind the other up to a sign. -/
def untilP (shut : ByteArray) (P : LS → Res Tree) : Nat → List Tree → LS → Res (List Tree)
  | 0, _, S => .inl (0, S.tp)
  | f + 1, acc, S => bnd (acceptP shut S) fun b S1 => if b = true then .inr (acc, S1) else bnd (P S1) fun t S2 => untilP shut P f (acc ++ [t]) S2
theorem untilP_on {shut : ByteArray} {P : LS → Res Tree} (hP : Good P) : ∀ (f : Nat) (acc l : List Tree) (S S' : LS), Ok S → untilP shut P f acc S = .inr (l, S') → On S S'
  | 0, acc, l, S, S', ok, h => by cases h
  | f + 1, acc, l, S, S', ok, h => by
    rw [untilP] at h
    obtain ⟨b, S1, h1, h'⟩ := bnd_some h
    clear h
    have o1 := accept_on ok h1
    cases b with
    | true => cases h'; exact o1.2.1 rfl
    | false =>
      obtain rfl := o1.2.2 rfl
      obtain ⟨t, S2, h2, h⟩ := bnd_some h'
      have o2 := hP _ _ _ ok h2
      exact o2.trans (untilP_on hP f _ l S2 S' o2.ok h)

def blockP (L : Low) (S : LS) : Res Tree := bnd (wantP tLeft S) fun _ S1 => bnd (untilP tRight L.S 3002 [] S1) fun ks S2 => .inr (⟨7, noText, noText, 0, S.tl, ks⟩, S2)
theorem blockP_good {L : Low} (hL : LowGood L) : Good (blockP L) := fun S a S' ok h => by
  obtain ⟨_, S1, h1, h⟩ := bnd_some h
  obtain ⟨ks, S2, h2, h⟩ := bnd_some h
  cases h
  exact (want_on ok h1).trans (untilP_on hL.s _ _ _ _ _ (want_on ok h1).ok h2)

/-- Parameters, and a block. -/
def bodyP (L : Low) (S : LS) : Res (Tree × Tree) := bnd (paramsP S) fun p S1 => bnd (blockP L S1) fun b S2 => .inr ((p, b), S2)
theorem bodyP_good {L : Low} (hL : LowGood L) : Good (bodyP L) := fun S a S' ok h => by
  obtain ⟨p, S1, h1, h⟩ := bnd_some h
  obtain ⟨b, S2, h2, h⟩ := bnd_some h
  cases h
  have o1 := paramsP_good _ _ _ ok h1
  exact o1.trans (blockP_good hL _ _ _ o1.ok h2)

def inParP (L : Low) (S : LS) : Res Tree := bnd (wantP tOpen S) fun _ S1 => bnd (L.V S1) fun t S2 => bnd (wantP tShut S2) fun _ S3 => .inr (t, S3)
theorem inParP_good {L : Low} (hL : LowGood L) : Good (inParP L) := fun S a S' ok h => by
  obtain ⟨_, S1, h1, h⟩ := bnd_some h
  obtain ⟨t, S2, h2, h⟩ := bnd_some h
  obtain ⟨_, S3, h3, h⟩ := bnd_some h
  cases h
  have o1 := want_on ok h1
  have o2 := hL.v _ _ _ o1.ok h2
  exact (o1.trans o2).trans (want_on o2.ok h3)

def argsP (L : Low) (S : LS) : Res (List Tree) := listedP tShut L.V S

/-- A node of one kind whose first token is taken, and what is read behind it. -/
def takenThen {α : Type} (S : LS) (k : LS → Res α) : Res α := bnd (takeP S) fun _ S1 => k S1

end Go.Proofs.YtndgajlidckcdaaGreatDoor

namespace Go.Proofs.YtndgajlidckcdaaGreatDoor
open Go.RowKit

/-- A list of trees in memory, made since the heap was so great. -/
structure Lst (lo : Nat) (w : World) (ks : Value) (vs : List Value) (ts : List Tree) : Prop where
  row : Row (fun j => lo ≤ j) w ks vs
  len : vs.length = ts.length
  kids : ∀ (i : Nat) (h : i < ts.length), NodeAt (fun j => lo ≤ j ∧ some j ≠ ks.ownBlock) w (vs.getD i undef) ts[i]

def vList (lo : Nat) (ts : List Tree) (v : Value) (w' : World) : Prop := ∃ vs, Lst lo w' v vs ts ∧ (ts = [] → v = .slice none 0 0) ∧ ts.length ≤ 8

theorem Lst.nil (lo : Nat) (w : World) : Lst lo w (.slice none 0 0) [] [] := ⟨Or.inl ⟨rfl, rfl⟩, rfl, fun i h => absurd h (Nat.not_lt_zero i)⟩
theorem Lst.ext {lo r : Nat} {w w' : World} {ks : Value} {vs : List Value} {ts : List Tree} (h : Lst lo w ks vs ts) (hx : Ext r w w') (hr : r < lo) : Lst lo w' ks vs ts :=
  ⟨h.row.keep (fun _ h => h) (fun j hj hl => hx.block j hl (by omega)), h.len, fun i hi => (h.kids i hi).ext hx fun j hj => by omega⟩
theorem Lst.form {lo : Nat} {w : World} {ks : Value} {vs : List Value} {ts : List Tree} (h : Lst lo w ks vs ts) : ∃ a cap, ks = .slice a ts.length cap := by
  rcases h.row with ⟨rfl, hv⟩ | ⟨g, cap, cur, rfl, _⟩
  · have := h.len
    rw [hv] at this
    exact ⟨none, 0, by rw [← this]; rfl⟩
  · exact ⟨some ⟨g, 0, none⟩, cap, by rw [h.len]⟩

/-- One more. -/
theorem Lst.more {lo : Nat} {w0 w w2 w3 : World} {r : Nat} {S : LS} {ts : List Tree} {ks : Value} {vs : List Value} (hlo0 : lo = w0.heap.size) (hl : Lst lo w ks vs ts) (hl2 : Lst lo w2 ks vs ts)
    (hlw : lo ≤ w.heap.size) (hr : r + 18 < lo) (cx : Cx w2 r S) (hx0 : Ext r w0 w2) {x : Value} {t : Tree} (hv : vNode w.heap.size t x w2) (o : Obj) {g cap : Nat}
    (hown : w3.ownsRow 0 22 1 (.slice (some ⟨g, 0, none⟩) (vs.length + 1) cap) (vs.length + 1) (vs ++ [x]))
    (hg : (w2.alloc o).grownBy w3 ks.ownBlock) (hat : ks.ownBlock = some g ∨ g = w2.heap.size + 1) :
    Hid (Lst lo w3 (.slice (some ⟨g, 0, none⟩) (vs.length + 1) cap) (vs ++ [x]) (ts ++ [t])) ∧ Hid (Ext r w0 w3) ∧ Hid (Cx w3 r S) := by
  have hkw : ∀ j, ks.ownBlock = some j → j < w.heap.size ∧ lo ≤ j := by
    intro j hj
    rcases hl.row with ⟨rfl, _⟩ | ⟨g', cap', cur, rfl, hg', h3, _⟩
    · simp [Value.ownBlock] at hj
    · simp only [Value.ownBlock, Option.some.injEq] at hj
      subst hj
      exact ⟨(Array.getElem?_eq_some_iff.1 h3).1, hg'⟩
  have hsz : lo ≤ w2.heap.size := by rw [hlo0]; exact hx0.size
  have hrk : some r ≠ ks.ownBlock := fun e => by have := (hkw r e.symm).2; omega
  have hrx : r < w2.heap.size := cx.rd.lt
  have hx3 : Ext r w0 w3 := ext_grown (hx0.alloc o) hg fun j hj => by have := (hkw j hj).2; omega
  have hcx3 : Cx w3 r S := by
    have ca := cx.alloc o
    have far := cx.tabs.far
    have hjc := ca.jc.keep (w' := w3) fun j _ h2 h3 => hg.block j h3 fun e => by have := (hkw j e.symm).2; omega
    have hjn := ca.jn
    have ht := ca.tabs.keep (w' := w3) fun j h1 h2 => hg.block j h2 fun e => by have := (hkw j e.symm).2; omega
    obtain ⟨⟨t, hr1⟩, ok, _, _, _⟩ := ca
    exact ⟨⟨t, (hg.block r (by simp; omega) hrk).trans hr1⟩, ok, ht, hjc, hjn⟩
  have hglo : lo ≤ g := by
    rcases hat with e | e
    · exact (hkw g e).2
    · omega
  refine ⟨?_, hx3, hcx3⟩
  have keepK : ∀ (v : Value) (u : Tree), NodeAt (fun j => lo ≤ j ∧ some j ≠ ks.ownBlock) w2 v u → NodeAt (fun j => lo ≤ j ∧ some j ≠ some g) w3 v u := fun v u hu =>
    (hu.lt u v).keep (fun j hj => ⟨hj.1.1, fun e => by
      have e' : j = g := by simpa using e
      rcases hat with q | q
      · exact hj.1.2 (by rw [q, e'])
      · have := hj.2; omega⟩) (fun j hj hl => (hg.block j (by simp; omega) hj.1.2).trans (hold _ _ hl)) u v
  have hlen := hl2.len
  refine ⟨?_, by simp [hlen], ?_⟩
  · have := Row.of_owns (A := fun j => lo ≤ j) (vs := vs ++ [x]) (by simpa using hown) hglo
    simpa using this
  · intro i hi
    by_cases hi' : i < ts.length
    · have := keepK _ _ (hl2.kids i hi')
      have e1 : (vs ++ [x]).getD i undef = vs.getD i undef := by simp [List.getD, List.getElem?_append_left (show i < vs.length by omega)]
      rw [e1, List.getElem_append_left hi']
      exact this
    · have hi2 : i = ts.length := by simp at hi; omega
      subst hi2
      have hxk : NodeAt (fun j => lo ≤ j ∧ some j ≠ ks.ownBlock) w2 x t := by
        refine NodeAt.keep (fun j hj => ⟨?_, fun e => ?_⟩) (fun _ _ _ => rfl) t x hv
        · omega
        · have := (hkw j e.symm).1; omega
      have := keepK _ _ hxk
      have e1 : (vs ++ [x]).getD ts.length undef = x := by simp [List.getD, ← hlen]
      have e2 : (ts ++ [t])[ts.length]'hi = t := by simp
      rw [e1, e2]
      exact this

/-- A node without kids is given a list. -/
theorem Und.setKids {lo lo2 : Nat} {w : World} {b k : Nat} {tx un : ByteArray} {n : Int} {ln : Nat} {ks : Value} {vs : List Value} {ts : List Tree} (h : Und (fun j => lo ≤ j) w b k tx un n ln [] (.slice none 0 0) []) (hl : Lst lo2 w ks vs ts) (hb : b < lo2) :
    Und (fun j => lo ≤ j) (w.setCell ⟨b, 5, none⟩ ks) b k tx un n ln ts ks vs := by
  obtain ⟨t, hc⟩ := h.cells
  have hlo : lo ≤ b := h.at'
  refine ⟨h.at', ⟨t, by rw [hset hc]; rfl⟩, hl.row.keep (fun j hj => ⟨by omega, by omega⟩) (fun j hj _ => hother _ (by omega)), hl.len, fun i hi => (hl.kids i hi).keep (fun j hj => ⟨by omega, by omega, hj.2⟩) (fun j hj _ => hother _ (by omega)) _ _⟩

end Go.Proofs.YtndgajlidckcdaaGreatDoor

namespace Go.Proofs.YtndgajlidckcdaaGreatDoor
open Go.RowKit

/-- A part is read by a function that was handed over, wherever the reader stands. -/
structure Part (r D : Nat) (G : FuncId) (pre : Array Value) (P : LS → Res Tree) : Prop where
  ent : ∀ w : World, Sem.run Tryz.prog (callFunc G pre) w = .ok (.enter G pre) w
  good : Good P
  calls : ∀ w S, Cx w r S → S.dp = D → Calls Tryz.prog G pre w fun e w' => Ret (P S) r (vNode w.heap.size) e w' ∧ Ext r w w'

theorem limit_calls {w : World} {r : Nat} {S : LS} (cx : Cx w r S) (n : Nat) :
    Calls Tryz.prog 214 #[.pointer (some ⟨r, 0, none⟩), .int .i64 n] w fun e w' => Ret (limitP n S) r vUnit e w' ∧ Ext r w w' :=
  (limitParts_any cx n).mono fun e w' ⟨h, hw⟩ => ⟨h, by rw [hw]; exact Ext.refl _ _⟩

set_option maxRecDepth 100000 in
set_option maxHeartbeats 4000000 in
theorem listed_any {w : World} {r D : Nat} {S : LS} (cx : Cx w r S) (hD : S.dp = D) (shut : ByteArray) (G : FuncId) (pre : Array Value) (P : LS → Res Tree) (hP : Part r D G pre P) :
    Calls Tryz.prog 213 #[.pointer (some ⟨r, 0, none⟩), .string shut, .func (.func G) pre #[]] w fun e w' =>
      Ret (listedP shut P S) r (vList w.heap.size) e w' ∧ Ext r w w' := by
  obtain ⟨i0, hi, hz0, hz1, hz2⟩ := info_parts infoNode
  have hent := hP.ent
  have HP := hide hP
  have hrj := cx.jc.lt
  have HL := hide (show listedP shut P S = bnd (acceptP shut S) fun b S1 => if b = true then .inr ([], S1) else listLoop shut P 9 [] S1 from rfl)
  clear hP
  go_enter Tryz.func213, Tryz.ntmps213
  go_wp2_with fail
  refine Ret.call (accept_any cx shut) ?_ ?_
  · intro f w1 hf hx
    exact ⟨rfl, Ret.inl ((unhide HL).trans (bnd_inl hf)), hx⟩
  intro b S1 v w1 hf hv cx1 hx1
  obtain rfl : v = .bool b := hv
  have hon := accept_on cx.ok hf
  have HL1 := hide ((unhide HL).trans (bnd_inr hf))
  clear hf HL
  cases b with
  | true =>
    clear hon
    go_wp2_with fail
    go_ret
    exact ⟨Ret.inr (unhide HL1) ⟨[], Lst.nil _ _, fun _ => rfl, by simp⟩ cx1, hx1⟩
  | false =>
    obtain rfl := hon.2.2 rfl
    have HL2 : Hid (listedP shut P S1 = listLoop shut P 9 [] S1) := unhide HL1
    clear HL1 hon cx
    go_wp2_with fail
    go_loopg [7] 9 (fun gg l wr => ∃ (S : LS) (acc : List Tree) (vs : List Value), Cx wr r S ∧ S.dp = D ∧ Hid (Lst w.heap.size wr l vs acc) ∧ Hid (Ext r w wr) ∧ gg + acc.length = 9 ∧ acc.length ≤ 8 ∧ Hid (listLoop shut P gg acc S = listedP shut P S1))
    case atStart => exact ⟨S1, [], [], cx1, hD, Lst.nil _ _, hx1, rfl, by simp, (unhide HL2).symm⟩
    case round =>
      clear cx1 hx1 HL2
      obtain ⟨S, acc, vs, cx, hdp, HLst, HX, hgg, hacc, HE⟩ := hrel
      obtain ⟨la, lcap, rfl⟩ := (unhide HLst).form
      have hvl : vs.length = acc.length := (unhide HLst).len
      obtain ⟨f, hgf⟩ : ∃ f, gk = f + 1 := ⟨gk - 1, by omega⟩
      subst hgf
      have HE1 : Hid ((bnd (limitP acc.length S) fun _ S0 => bnd (P S0) fun t S1 => bnd (acceptP shut S1) fun b S2 =>
        if b = true then .inr (acc ++ [t], S2) else bnd (wantP tComma S2) fun _ S3 => listLoop shut P f (acc ++ [t]) S3) = listedP shut P S1) := unhide HE
      have HV := hide hvl
      clear HE hvl
      go_wp2_with fail
      refine Ret.call (limit_calls cx acc.length) ?_ ?_
      · intro fl w2 hf hx
        exact ⟨rfl, Ret.inl ((unhide HE1).symm.trans (bnd_inl hf)), (unhide HX).trans hx⟩
      intro a S2 v w2 hf hv cx2 hx2
      obtain rfl : v = .tuple #[] := hv
      have hne : acc.length ≠ 8 := by
        intro e
        rw [limitP, if_pos e] at hf
        cases hf
      obtain rfl := limit_on hf
      have HE2 := hide ((bnd_inr hf).symm.trans (unhide HE1))
      have HL2 := hide ((unhide HLst).ext hx2 (by omega))
      have HX2 := hide ((unhide HX).trans hx2)
      clear hf HE1 HLst HX hx2 cx
      go_wp2_with fail
      refine Ret.call ((unhide HP).calls _ _ cx2 hdp) ?_ ?_
      · intro fl w3 hf hx
        exact ⟨rfl, Ret.inl ((unhide HE2).symm.trans (bnd_inl hf)), (unhide HX2).trans hx⟩
      intro t S3 v w3 hf hv cx3 hx3
      have hon3 := (unhide HP).good _ _ _ cx2.ok hf
      obtain ⟨kb, rfl⟩ := vNode_ptr hv
      have HE3 := hide ((bnd_inr hf).symm.trans (unhide HE2))
      have HL3 := hide ((unhide HL2).ext hx3 (by omega))
      have HX3 := hide ((unhide HX2).trans hx3)
      have hd3 : S3.dp = D := hon3.same.dp.trans hdp
      have HN3 := hide hv
      have HSZ := hide (unhide HX2).size
      have HC3 := hide cx3
      clear hf HE2 hv hx3 hon3 cx3 HX2
      go_wp2_with (at_builtin; refine wpList_append_lies _ rfl _ _ _ rfl 0 22 i0 (.pointer none) 1 8 Tryz.underlying51 hi hz0 hz1 hz2 rfl (by decide) _ vs.length vs rfl (((unhide HL3).row.owns).alloc _) ⟨w3.heap.size, 0, none⟩ 1 1 [.pointer (some ⟨kb, 0, none⟩)] rfl rfl (cell_one_new _ _ _) ?c2 (by decide) ?c3 ?c4 (Nat.zero_le _) (w3.heap.size + 1) (by simp) ?_)
      case c2 => intro u hu; simp at hu; subst hu; rfl
      case c3 => have := unhide HV; unfold maxLen; omega
      case c4 => have := unhide HV; omega
      intro g cap w4 hown hgrow hat hlt
      obtain ⟨HL4, HX4, HC4⟩ := Lst.more rfl (unhide HL2) (unhide HL3) (unhide HSZ) (by omega) (unhide HC3) (unhide HX3) (unhide HN3) _ hown hgrow hat
      clear hown hgrow hat hlt HL2 HL3 HX3 HN3 HC3
      go_wp2_with fail
      refine Ret.call (accept_any (unhide HC4) shut) ?_ ?_
      · intro fl w5 hf hx
        exact ⟨rfl, Ret.inl ((unhide HE3).symm.trans (bnd_inl hf)), (unhide HX4).trans hx⟩
      intro bb S5 v w5 hf hv cx5 hx5
      obtain rfl : v = .bool bb := hv
      have hon5 := accept_on (unhide HC4).ok hf
      have HE5 := hide ((bnd_inr hf).symm.trans (unhide HE3))
      have HL5 := hide ((unhide HL4).ext hx5 (by omega))
      have HX5 := hide ((unhide HX4).trans hx5)
      have hd5 : S5.dp = D := hon5.1.same.dp.trans hd3
      clear hf HE3 HL4 HX4 hx5 hon5 HC4
      cases bb with
      | true =>
        go_wp2_with fail
        go_ret
        exact ⟨Ret.inr (unhide HE5).symm ⟨_, unhide HL5, fun h => absurd h (by simp), by simp; omega⟩ cx5, unhide HX5⟩
      | false =>
        go_wp2_with fail
        refine Ret.call (want_any cx5 tComma) ?_ ?_
        · intro fl w6 hf hx
          exact ⟨rfl, Ret.inl ((unhide HE5).symm.trans (bnd_inl hf)), (unhide HX5).trans hx⟩
        intro a6 S6 v w6 hf hv cx6 hx6
        obtain rfl : v = .tuple #[] := hv
        have hon6 := want_on cx5.ok hf
        have HE6 := hide ((bnd_inr hf).symm.trans (unhide HE5))
        have hd6 : S6.dp = D := hon6.same.dp.trans hd5
        clear hf hon6 HE5
        go_wp2_with fail
        go_roundg f
        case measure => omega
        case rel => exact ⟨S6, acc ++ [t], _, cx6, hd6, (unhide HL5).ext hx6 (by omega), (unhide HX5).trans hx6, by simp; omega, by simp; omega, unhide HE6⟩
end Go.Proofs.YtndgajlidckcdaaGreatDoor
