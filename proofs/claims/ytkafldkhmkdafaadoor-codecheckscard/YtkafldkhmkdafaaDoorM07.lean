/-
  An image is made anew: functions, whose rows lie in blocks of their own.
-/
import Derived.Test.YtkafldkhmkdafaaDoorM06
namespace Go.Proofs.YtkafldkhmkdafaaDoor
open Go.RowKit

theorem Mk.start {w : World} {ib i k : Nat} {cs : Array Value} {e : TypeId} {t : TypeId} (hb : w.heap[ib]? = some (.cells (cs.setIfInBounds i (.slice none 0 0)) t (0, 0))) (hi : i < cs.size) : Mk w w ib cs i e k (.slice none 0 0) 0 [] :=
  ⟨Ext.refl _ _, ⟨t, hb⟩, ⟨by simp, Or.inl ⟨rfl, rfl⟩⟩, hlt hb, hi⟩
theorem Mk.below {w0 w w' : World} {ib : Nat} {cs : Array Value} {i : Nat} {e : TypeId} {k : Nat} {v : Value} {n : Nat} {xs : List Value} (h : Mk w0 w ib cs i e k v n xs) (hb : Below w.heap.size w w') : Mk w0 w' ib cs i e k v n xs := by
  obtain ⟨h1, ⟨t, h2⟩, ⟨h3, h3'⟩, h4, h5⟩ := h
  refine ⟨h1.trans ⟨hb.os, hb.tape, hb.output, hb.size, fun j hj _ => hb.block j hj⟩, ⟨t, (hb.block _ (hlt h2)).trans h2⟩, ⟨h3, ?_⟩, h4, h5⟩
  rcases h3' with q | ⟨g, cap, cur, q1, q2, q3, q4⟩
  · exact Or.inl q
  · exact Or.inr ⟨g, cap, cur, q1, q2, (hb.block _ (hlt q3)).trans q3, q4⟩
/-- As Mk.grow, where no copy was laid. -/
theorem Mk.grow1 {w0 wr W w3 : World} {ib : Nat} {cs : Array Value} {i : Nat} {e : TypeId} {k : Nat} {v : Value} {n : Nat} {xs news : List Value} (h : Mk w0 wr ib cs i e k v n xs) {o2 : Obj}
    (hh : W.heap = (wr.alloc o2).heap) (ho : W.os = wr.os) (ht : W.tape = wr.tape) (hp : W.output = wr.output) {g cap : Nat}
    (hown : w3.ownsRow w0.heap.size e k (.slice (some ⟨g, 0, none⟩) (n + 1) cap) (n + 1) (xs ++ news)) (hg : W.grownBy w3 v.ownBlock) (hat : v.ownBlock = some g ∨ g = wr.heap.size + 1) :
    w3.cell? ⟨ib, i, none⟩ = some v ∧ w3.frozen? ⟨ib, i, none⟩ = false ∧ (∀ j, j < wr.heap.size → v.ownBlock ≠ some j → w3.heap[j]? = wr.heap[j]?) ∧ Hid (Mk w0 (w3.setCell ⟨ib, i, none⟩ (.slice (some ⟨g, 0, none⟩) (n + 1) cap)) ib cs i e k (.slice (some ⟨g, 0, none⟩) (n + 1) cap) (n + 1) (xs ++ news)) := by
  have hW : Mk w0 W ib cs i e k v n xs := (h.alloc o2).like hh ho ht hp
  have hsz : W.heap.size = wr.heap.size + 1 := by rw [hh]; simp
  obtain ⟨q1, q2, q3⟩ := hW.more hown hg (by rw [hsz]; exact hat)
  refine ⟨q1, q2, fun j hj hne => ?_, q3⟩
  rw [hg.block j (by omega) (fun e => hne e.symm), hh]
  exact Below.heap_alloc _ _ _ hj

/-- A slice lies in a block. -/
def liesIn (v : Value) (j : Nat) : Prop := ∃ o n cap, v = .slice (some ⟨j, o, none⟩) n cap
theorem SlAt.far {w w' : World} {v : Value} {n k b : Nat} {R : Nat → Nat → Value} (h : SlAt w v n k b R) (hb : ∀ j, liesIn v j → w'.heap[j]? = w.heap[j]?) : SlAt w' v n k b R := by
  obtain ⟨g, cap, rfl, h2, h3⟩ := h
  refine ⟨g, cap, rfl, h2, fun i hi => ?_⟩
  obtain ⟨q, o, rfl, h5⟩ := h3 i hi
  exact ⟨q, o, rfl, fun j hj => (World.cell?_of_block (hb q ⟨o, n, cap, rfl⟩)).trans (h5 j hj)⟩
/-- Its rows lie behind a mark. -/
def SlOwn (w : World) (B : Nat) (v : Value) (n k b : Nat) (R : Nat → Nat → Value) : Prop := SlAt w v n k b R ∧ ∀ j, liesIn v j → B ≤ j ∧ j < w.heap.size
theorem SlOwn.ext {w w' : World} {B r : Nat} {v : Value} {n k b : Nat} {R : Nat → Nat → Value} (h : SlOwn w B v n k b R) (he : Ext r w w') (hr : r < B) : SlOwn w' B v n k b R :=
  ⟨h.1.far fun j hj => he.block j (h.2 j hj).2 (by have := (h.2 j hj).1; omega), fun j hj => ⟨(h.2 j hj).1, Nat.lt_of_lt_of_le (h.2 j hj).2 he.size⟩⟩
theorem SlOwn.of {w0 w : World} {ib : Nat} {cs : Array Value} {i : Nat} {e : TypeId} {k : Nat} {v : Value} {n : Nat} {xs : List Value} {R : Nat → Nat → Value} {b B : Nat} (h : Mk w0 w ib cs i e k v n xs) (hf : Flat xs n k R) (hb : n * b ≤ 140737488355328) (hB : B ≤ w0.heap.size) : SlOwn w B v n k b R := by
  obtain ⟨g, cap, h1, h2⟩ := rows_of_owns h.own hf
  refine ⟨⟨g, cap, h1, hb, h2⟩, fun j hj => ?_⟩
  obtain ⟨o, n', c', rfl⟩ := hj
  rcases h.own.2 with ⟨q, _⟩ | ⟨g', cap', cur, q1, q2, q3, _⟩
  · cases q
  · cases q1
    exact ⟨by omega, hlt q3⟩

/-- A function whose rows lie outside of what is written to. -/
def FnOwn (w : World) (no : Nat → Prop) (C : Nat → Value) (f : PF) : Prop := FnIs w C f ∧ ∀ c j, liesIn (C c) j → j < w.heap.size ∧ ¬ no j
theorem FnOwn.move {w w' : World} {no no' : Nat → Prop} {C : Nat → Value} {f : PF} (h : FnOwn w no C f) (hs : w.heap.size ≤ w'.heap.size) (hb : ∀ j, j < w.heap.size → ¬ no j → w'.heap[j]? = w.heap[j]?) (hn : ∀ j, j < w.heap.size → no' j → no j) : FnOwn w' no' C f := by
  obtain ⟨⟨h1, h2, h3, h4, h5, h6⟩, h7⟩ := h
  exact ⟨⟨h1, h2, h3, h4.far fun j hj => hb j (h7 3 j hj).1 (h7 3 j hj).2, h5.far fun j hj => hb j (h7 4 j hj).1 (h7 4 j hj).2, h6.far fun j hj => hb j (h7 5 j hj).1 (h7 5 j hj).2⟩,
    fun c j hj => ⟨Nat.lt_of_lt_of_le (h7 c j hj).1 hs, fun q => (h7 c j hj).2 (hn j (h7 c j hj).1 q)⟩⟩
def noW (ib : Nat) (v : Value) (j : Nat) : Prop := j = ib ∨ v.ownBlock = some j
/-- So many functions are made. -/
def Fns (w : World) (ib : Nat) (v : Value) (R : Nat → Nat → Value) (l : List PF) (k : Nat) : Prop := ∀ i f, i < k → l[i]? = some f → FnOwn w (noW ib v) (R i) f
theorem Fns.below {w w' : World} {ib : Nat} {v : Value} {R : Nat → Nat → Value} {l : List PF} {k : Nat} (h : Fns w ib v R l k) (hb : Below w.heap.size w w') : Fns w' ib v R l k :=
  fun i f hi hf => (h i f hi hf).move hb.size (fun j hj _ => hb.block j hj) (fun _ _ q => q)
/-- A function's six values, once its three rows are made. -/
def fnRow (f : PF) (a b c : Value) (j : Nat) : Value := match j with | 0 => .string f.name | 1 => .int .i64 f.params | 2 => .int .i64 f.slots | 3 => a | 4 => b | 5 => c | _ => undef
theorem FnOwn.of {w : World} {f : PF} {a b c : Value} {B : Nat} {no : Nat → Prop} (ha : SlOwn w B a f.code.length 3 24 (instrRow f.code)) (hb : SlOwn w B b f.hands.length 3 24 (handRow f.hands)) (hc : SlOwn w B c f.vars.length 5 48 (varRow f.vars)) (hn : ∀ j, no j → j < B) : FnOwn w no (fnRow f a b c) f := by
  refine ⟨⟨rfl, rfl, rfl, ha.1, hb.1, hc.1⟩, fun i j hj => ?_⟩
  have hh : B ≤ j ∧ j < w.heap.size := by
    match i, hj with
    | 0, ⟨_, _, _, q⟩ => cases q
    | 1, ⟨_, _, _, q⟩ => cases q
    | 2, ⟨_, _, _, q⟩ => cases q
    | 3, q => exact ha.2 j q
    | 4, q => exact hb.2 j q
    | 5, q => exact hc.2 j q
    | _ + 6, ⟨_, _, _, q⟩ => cases q
  exact ⟨hh.2, fun q => by have := hn j q; omega⟩
/-- One function more. -/
theorem Fns.snoc {w w3 w' : World} {ib : Nat} {v : Value} {R : Nat → Nat → Value} {l : List PF} {k : Nat} {C : Nat → Value} {f : PF} {g n cap : Nat} (h : Fns w ib v R l k) (hx : l[k]? = some f) (hf : FnOwn w (noW ib v) C f)
    (hs : w.heap.size ≤ w3.heap.size) (hb : ∀ j, j < w.heap.size → v.ownBlock ≠ some j → w3.heap[j]? = w.heap[j]?) (hat : v.ownBlock = some g ∨ g = w.heap.size + 1) {i : Nat} {u : Value} (hw : w' = w3.setCell ⟨ib, i, none⟩ u) :
    Fns w' ib (.slice (some ⟨g, 0, none⟩) n cap) (fun i => if i = k then C else R i) l (k + 1) := by
  subst hw
  have key : ∀ {C f}, FnOwn w (noW ib v) C f → FnOwn (w3.setCell ⟨ib, i, none⟩ u) (noW ib (.slice (some ⟨g, 0, none⟩) n cap)) C f := fun q =>
    q.move (by simpa [World.setCell] using hs) (fun j hj hn => (hother u (fun e => hn (Or.inl e))).trans (hb j hj fun e => hn (Or.inr e))) (fun j hj q => by
      rcases q with q | q
      · exact Or.inl q
      · simp only [Value.ownBlock, Option.some.injEq] at q
        rcases hat with e | e
        · exact Or.inr (by rw [e, q])
        · omega)
  intro i' f' hi' hf'
  by_cases e : i' = k
  · subst e
    rw [hx] at hf'
    cases hf'
    simp only [if_pos]
    exact key hf
  · simp only [if_neg e]
    exact key (h i' f' (by omega) hf')
theorem Flat.turn {xs : List Value} {n k : Nat} {R R' : Nat → Nat → Value} (h : Flat xs n k R) (hR : ∀ i, i < n → R' i = R i) : Flat xs n k R' := fun i j hi hj => by rw [hR i hi]; exact h i j hi hj
end Go.Proofs.YtkafldkhmkdafaaDoor
