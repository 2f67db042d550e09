/-
  An image is made anew: rows that grow.
-/
import Derived.Test.YtpfhnmgfcmkidaaDoorCFew
import Derived.Deep.AppendLies
namespace Go.Proofs.YtpfhnmgfcmkidaaDoor
open Go.RowKit

/-- Of what was there, block r alone may have turned. -/
structure Ext (r : Nat) (w w' : World) : Prop where
  os : w'.os = w.os
  tape : w'.tape = w.tape
  output : w'.output = w.output
  size : w.heap.size ≤ w'.heap.size
  block : ∀ k, k < w.heap.size → k ≠ r → w'.heap[k]? = w.heap[k]?
theorem Ext.refl (r : Nat) (w : World) : Ext r w w := ⟨rfl, rfl, rfl, Nat.le_refl _, fun _ _ _ => rfl⟩
theorem Ext.trans {r : Nat} {a b c : World} (h : Ext r a b) (k : Ext r b c) : Ext r a c :=
  ⟨k.os.trans h.os, k.tape.trans h.tape, k.output.trans h.output, Nat.le_trans h.size k.size, fun i hi hr => (k.block i (Nat.lt_of_lt_of_le hi h.size) hr).trans (h.block i hi hr)⟩
theorem Ext.alloc {r : Nat} {a w : World} (h : Ext r a w) (o : Obj) : Ext r a (w.alloc o) :=
  h.trans ⟨rfl, rfl, rfl, by simp, fun k hk _ => Below.heap_alloc _ _ _ hk⟩
theorem Ext.drewN {r : Nat} {a w : World} (h : Ext r a w) (n : Nat) : Ext r a (w.drewN n) := ⟨h.os, h.tape, h.output, h.size, h.block⟩
theorem Ext.setCell {r : Nat} {a w : World} (h : Ext r a w) (i : Nat) (v : Value) : Ext r a (w.setCell ⟨r, i, none⟩ v) :=
  h.trans ⟨rfl, rfl, rfl, by simp [World.setCell], fun k _ hr => Below.heap_setCell _ _ _ _ hr⟩
theorem Ext.grown {r : Nat} {a w w' : World} {row : Option Nat} (h : Ext r a w) (hg : w.grownBy w' row) (hr : ∀ k, row = some k → a.heap.size ≤ k) : Ext r a w' :=
  ⟨hg.os.trans h.os, hg.tape.trans h.tape, hg.output.trans h.output, Nat.le_trans h.size hg.size, fun k hk hne => (hg.block k (Nat.lt_of_lt_of_le hk h.size) (fun e => by have := hr k e.symm; omega)).trans (h.block k hk hne)⟩
theorem Ext.below {r B : Nat} {a w : World} (h : Ext r a w) (hB : B ≤ a.heap.size) (hr : B ≤ r) : Below B a w := ⟨h.os, h.tape, h.output, h.size, fun k hk => h.block k (by omega) (by omega)⟩

/-- A flat list of rows. -/
def Flat (xs : List Value) (n k : Nat) (R : Nat → Nat → Value) : Prop := ∀ i j, i < n → j < k → xs[i * k + j]? = some (R i j)
theorem Flat.nil (k : Nat) (R : Nat → Nat → Value) : Flat [] 0 k R := fun i _ hi => absurd hi (Nat.not_lt_zero i)
theorem Flat.snoc {xs news : List Value} {n k : Nat} {R : Nat → Nat → Value} (h : Flat xs n k R) (hl : xs.length = n * k) (hn : ∀ j, j < k → news[j]? = some (R n j)) : Flat (xs ++ news) (n + 1) k R := by
  intro i j hi hj
  by_cases e : i = n
  · subst e
    rw [List.getElem?_append_right (by omega), show i * k + j - xs.length = j by omega]
    exact hn j hj
  · have h1 : i * k + j < n * k := by
      have : (i + 1) * k ≤ n * k := Nat.mul_le_mul_right k (by omega)
      rw [Nat.add_mul] at this
      omega
    rw [List.getElem?_append_left (by omega)]
    exact h i j (by omega) hj
theorem rows_of_owns {w : World} {B : Nat} {e : TypeId} {k : Nat} {v : Value} {n : Nat} {xs : List Value} {R : Nat → Nat → Value} (h : w.ownsRow B e k v n xs) (hf : Flat xs n k R) : ∃ g cap, v = .slice g n cap ∧ RowsAt w g n k R := by
  rcases h.2 with ⟨rfl, rfl⟩ | ⟨g, cap, cur, rfl, h2, h3, h4, h5, h6, h7⟩
  · exact ⟨none, 0, rfl, fun i hi => absurd hi (Nat.not_lt_zero i)⟩
  · refine ⟨_, cap, rfl, fun i hi => ⟨g, 0, rfl, fun j hj => ?_⟩⟩
    have hx := hf i j hi hj
    have h1 : i * k + j < n * k := by
      have : (i + 1) * k ≤ n * k := Nat.mul_le_mul_right k (by omega)
      rw [Nat.add_mul] at this
      omega
    rw [Nat.zero_add, hcell h3, ← Array.getElem?_toList]
    rw [← h7, List.getElem?_take] at hx
    simpa [h1] using hx

theorem infoConst : (Tryd.prog.info? 77).map (fun i => (i.zero, i.size, i.bytes)) = some (some (.agg #[.bool false, .string ByteArray.empty, .int .i64 0]), 3, 32) := by kernel_rfl
theorem infoKind : (Tryd.prog.info? 68).map (fun i => (i.zero, i.size, i.bytes)) = some (some (.agg #[.string ByteArray.empty, .int .i64 0, .slice none 0 0, .slice none 0 0, .slice none 0 0]), 5, 96) := by kernel_rfl
theorem infoFunc : (Tryd.prog.info? 73).map (fun i => (i.zero, i.size, i.bytes)) = some (some (.agg #[.string ByteArray.empty, .int .i64 0, .int .i64 0, .slice none 0 0, .slice none 0 0, .slice none 0 0]), 6, 104) := by kernel_rfl
theorem infoInstr : (Tryd.prog.info? 80).map (fun i => (i.zero, i.size, i.bytes)) = some (some (.agg #[.int .i64 0, .int .i64 0, .int .i64 0]), 3, 24) := by kernel_rfl
theorem infoHand : (Tryd.prog.info? 83).map (fun i => (i.zero, i.size, i.bytes)) = some (some (.agg #[.int .i64 0, .int .i64 0, .int .i64 0]), 3, 24) := by kernel_rfl
theorem infoSlot : (Tryd.prog.info? 86).map (fun i => (i.zero, i.size, i.bytes)) = some (some (.agg #[.string ByteArray.empty, .int .i64 0, .int .i64 0, .int .i64 0, .bool false]), 5, 48) := by kernel_rfl

/-- The image's block, and the row that grows behind its cell i. -/
structure Mk (w0 w : World) (ib : Nat) (cs : Array Value) (i : Nat) (e : TypeId) (k : Nat) (v : Value) (n : Nat) (xs : List Value) : Prop where
  ext : Ext ib w0 w
  blk : ∃ t, w.heap[ib]? = some (.cells (cs.setIfInBounds i v) t (0, 0))
  own : w.ownsRow w0.heap.size e k v n xs
  lt : ib < w0.heap.size
  sz : i < cs.size
theorem Mk.cell {w0 w : World} {ib : Nat} {cs : Array Value} {i : Nat} {e : TypeId} {k : Nat} {v : Value} {n : Nat} {xs : List Value} (h : Mk w0 w ib cs i e k v n xs) : w.cell? ⟨ib, i, none⟩ = some v := by
  obtain ⟨t, hb⟩ := h.blk
  rw [hcell hb]
  have := h.sz
  simp [this]
theorem Mk.own_ne {w0 w : World} {ib : Nat} {cs : Array Value} {i : Nat} {e : TypeId} {k : Nat} {v : Value} {n : Nat} {xs : List Value} (h : Mk w0 w ib cs i e k v n xs) : ∀ j, v.ownBlock = some j → w0.heap.size ≤ j := by
  intro j hj
  rcases h.own.2 with ⟨rfl, _⟩ | ⟨g, cap, cur, rfl, h2, _⟩
  · simp [Value.ownBlock] at hj
  · simp only [Value.ownBlock, Option.some.injEq] at hj
    omega
theorem Mk.alloc {w0 w : World} {ib : Nat} {cs : Array Value} {i : Nat} {e : TypeId} {k : Nat} {v : Value} {n : Nat} {xs : List Value} (h : Mk w0 w ib cs i e k v n xs) (o : Obj) : Mk w0 (w.alloc o) ib cs i e k v n xs := by
  obtain ⟨h1, ⟨t, h2⟩, h3, h4, h5⟩ := h
  exact ⟨h1.alloc o, ⟨t, (Below.heap_alloc _ _ _ (hlt h2)).trans h2⟩, owns_alloc h3 o, h4, h5⟩
theorem Mk.drewN {w0 w : World} {ib : Nat} {cs : Array Value} {i : Nat} {e : TypeId} {k : Nat} {v : Value} {n : Nat} {xs : List Value} (h : Mk w0 w ib cs i e k v n xs) (m : Nat) : Mk w0 (w.drewN m) ib cs i e k v n xs := ⟨h.ext.drewN m, h.blk, h.own, h.lt, h.sz⟩
/-- Behind an append, and behind the store. -/
theorem Mk.more {w0 w w3 : World} {ib : Nat} {cs : Array Value} {i : Nat} {e : TypeId} {k : Nat} {v : Value} {n : Nat} {xs news : List Value} (h : Mk w0 w ib cs i e k v n xs) {g cap : Nat}
    (hown : w3.ownsRow w0.heap.size e k (.slice (some ⟨g, 0, none⟩) (n + 1) cap) (n + 1) (xs ++ news)) (hg : w.grownBy w3 v.ownBlock) (hat : v.ownBlock = some g ∨ g = w.heap.size) :
    w3.cell? ⟨ib, i, none⟩ = some v ∧ w3.frozen? ⟨ib, i, none⟩ = false ∧ Mk w0 (w3.setCell ⟨ib, i, none⟩ (.slice (some ⟨g, 0, none⟩) (n + 1) cap)) ib cs i e k (.slice (some ⟨g, 0, none⟩) (n + 1) cap) (n + 1) (xs ++ news) := by
  have hne := h.own_ne
  have hcell0 := h.cell
  obtain ⟨h1, ⟨t, h2⟩, h3, h4, h5⟩ := h
  have hi3 : w3.heap[ib]? = some (.cells (cs.setIfInBounds i v) t (0, 0)) := (hg.block ib (hlt h2) (fun e => by have := hne ib e.symm; omega)).trans h2
  have hgi : g ≠ ib := by
    rcases hat with e | e
    · have := hne g e; omega
    · have := hlt h2; omega
  refine ⟨(World.cell?_of_block (hi3.trans h2.symm)).trans hcell0, hfroz hi3 i, ⟨(h1.grown hg hne).setCell i _, ⟨t, ?_⟩, ?_, h4, h5⟩⟩
  · rw [hset hi3]
    congr 1
    apply congrArg (fun z => Obj.cells z t (0, 0))
    apply Array.ext_getElem?
    intro j
    simp only [Array.getElem?_setIfInBounds, Array.size_setIfInBounds]
    split <;> rfl
  · refine ⟨hown.1, ?_⟩
    rcases hown.2 with ⟨q, _⟩ | ⟨g', cap', cur, q1, q2, q3, q4⟩
    · cases q
    · cases q1
      exact Or.inr ⟨g, cap, cur, rfl, q2, (hother _ hgi).trans q3, q4⟩
theorem Mk.like {w0 w w' : World} {ib : Nat} {cs : Array Value} {i : Nat} {e : TypeId} {k : Nat} {v : Value} {n : Nat} {xs : List Value} (h : Mk w0 w ib cs i e k v n xs) (hh : w'.heap = w.heap) (ho : w'.os = w.os) (ht : w'.tape = w.tape) (hp : w'.output = w.output) : Mk w0 w' ib cs i e k v n xs := by
  obtain ⟨h1, ⟨t, h2⟩, ⟨h3, h3'⟩, h4, h5⟩ := h
  refine ⟨⟨ho.trans h1.os, ht.trans h1.tape, hp.trans h1.output, by rw [hh]; exact h1.size, fun j hj hr => by rw [hh]; exact h1.block j hj hr⟩, ⟨t, by rw [hh]; exact h2⟩, ⟨h3, ?_⟩, h4, h5⟩
  rcases h3' with q | ⟨g, cap, cur, q1, q2, q3, q4⟩
  · exact Or.inl q
  · exact Or.inr ⟨g, cap, cur, q1, q2, by rw [hh]; exact q3, q4⟩
theorem Mk.own_lt {w0 w : World} {ib : Nat} {cs : Array Value} {i : Nat} {e : TypeId} {k : Nat} {v : Value} {n : Nat} {xs : List Value} (h : Mk w0 w ib cs i e k v n xs) : ∀ j, v.ownBlock = some j → j < w.heap.size := by
  intro j hj
  rcases h.own.2 with ⟨rfl, _⟩ | ⟨g, cap, cur, rfl, h2, h3, _⟩
  · simp [Value.ownBlock] at hj
  · simp only [Value.ownBlock, Option.some.injEq] at hj
    subst hj
    exact hlt h3
/-- A row is appended to out of a copy that was laid beside it. -/
theorem Mk.grow {w0 wr W w3 : World} {ib : Nat} {cs : Array Value} {i : Nat} {e : TypeId} {k : Nat} {v : Value} {n : Nat} {xs news : List Value} (h : Mk w0 wr ib cs i e k v n xs) {o1 o2 : Obj}
    (hh : W.heap = ((wr.alloc o1).alloc o2).heap) (ho : W.os = wr.os) (ht : W.tape = wr.tape) (hp : W.output = wr.output) {g cap : Nat}
    (hown : w3.ownsRow w0.heap.size e k (.slice (some ⟨g, 0, none⟩) (n + 1) cap) (n + 1) (xs ++ news)) (hg : W.grownBy w3 v.ownBlock) (hat : v.ownBlock = some g ∨ g = wr.heap.size + 1 + 1) :
    w3.cell? ⟨ib, i, none⟩ = some v ∧ w3.frozen? ⟨ib, i, none⟩ = false ∧ w3.heap[wr.heap.size]? = some o1 ∧ Hid (Mk w0 (w3.setCell ⟨ib, i, none⟩ (.slice (some ⟨g, 0, none⟩) (n + 1) cap)) ib cs i e k (.slice (some ⟨g, 0, none⟩) (n + 1) cap) (n + 1) (xs ++ news)) := by
  have hW : Mk w0 W ib cs i e k v n xs := ((h.alloc o1).alloc o2).like hh ho ht hp
  have hsz : W.heap.size = wr.heap.size + 1 + 1 := by rw [hh]; simp
  obtain ⟨q1, q2, q3⟩ := hW.more hown hg (by rw [hsz]; exact hat)
  refine ⟨q1, q2, ?_, q3⟩
  rw [hg.block wr.heap.size (by omega) (fun e => by have := h.own_lt _ e.symm; omega), hh, Below.heap_alloc _ _ _ (by simp)]
  exact hnew _ _
end Go.Proofs.YtpfhnmgfcmkidaaDoor
