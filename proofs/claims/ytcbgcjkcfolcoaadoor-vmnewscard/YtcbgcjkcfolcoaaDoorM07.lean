/-
  Images that are small enough to be held.
  An image is made anew: rows that grow.
  An image is made anew: functions, whose rows lie in blocks of their own.
-/
import Derived.Test.YtcbgcjkcfolcoaaDoorM06
namespace Go.Proofs.YtcbgcjkcfolcoaaDoor
open Go.RowKit

def FewPost (m : PM) (w : World) (e : Ending) (w' : World) : Prop := Below w.heap.size w w' ∧ ∃ c, e = .returned (.bool c) ∧ (c = true → m.funcs.length ≤ 260 ∧ m.consts.length ≤ 1100 ∧ m.classes.length ≤ 260)

set_option maxRecDepth 100000 in
set_option maxHeartbeats 8000000 in
theorem few_law {w : World} {m : PM} {vf vc vk : Value} (h : ImgIs w vf vc vk m) :
    Calls Tryd.prog 4 #[.agg #[vf, vc, vk]] w fun e w' => FewPost m w e w' := by
  obtain ⟨RF, ⟨gf, capf, rfl, nf, rf⟩, hRF⟩ := h.funcs
  obtain ⟨gc, capc, rfl, nc, _⟩ := h.consts
  obtain ⟨RK, ⟨gk, capk, rfl, nk, rk⟩, hRK⟩ := h.classes
  have HRF := hide rf
  have HRRF := hide hRF
  have HRK := hide rk
  have HRRK := hide hRK
  have HBA : ∀ o, Hid (Below w.heap.size w (w.alloc o)) := fun o => (Below.refl _ _).alloc (Nat.le_refl _) o
  clear h rf hRF rk hRK
  by_cases h1 : 260 < m.funcs.length
  · have b1 : decide ((260 : Int) < (m.funcs.length : Int)) = true := by simp; omega
    go_enter Tryd.func4, Tryd.ntmps4
    go_wp2_with fail
    go_ret
    exact ⟨unhide (HBA _), false, rfl, fun e => by cases e⟩
  · have b1 : decide ((260 : Int) < (m.funcs.length : Int)) = false := by simp; omega
    by_cases h2 : 1100 < m.consts.length
    · have b2 : decide ((1100 : Int) < (m.consts.length : Int)) = true := by simp; omega
      go_enter Tryd.func4, Tryd.ntmps4
      go_wp2_with fail
      go_ret
      exact ⟨unhide (HBA _), false, rfl, fun e => by cases e⟩
    · have b2 : decide ((1100 : Int) < (m.consts.length : Int)) = false := by simp; omega
      by_cases h3 : 260 < m.classes.length
      · have b3 : decide ((260 : Int) < (m.classes.length : Int)) = true := by simp; omega
        go_enter Tryd.func4, Tryd.ntmps4
        go_wp2_with fail
        go_ret
        exact ⟨unhide (HBA _), false, rfl, fun e => by cases e⟩
      · have b3 : decide ((260 : Int) < (m.classes.length : Int)) = false := by simp; omega
        have HBD : Hid (m.funcs.length ≤ 260 ∧ m.consts.length ≤ 1100 ∧ m.classes.length ≤ 260) := ⟨by omega, by omega, by omega⟩
        go_enter Tryd.func4, Tryd.ntmps4
        go_wp2_with fail
        obtain ⟨w0, hw0⟩ : ∃ w0, w.alloc (.cells #[.slice gf m.funcs.length capf, .slice gc m.consts.length capc, .slice gk m.classes.length capk] 26) = w0 := ⟨_, rfl⟩
        have hb0 : Below w.heap.size w w0 := by rw [← hw0]; exact unhide (HBA _)
        have hk : w0.heap[w.heap.size]? = some (.cells #[.slice gf m.funcs.length capf, .slice gc m.consts.length capc, .slice gk m.classes.length capk] 26 (0, 0)) := by rw [← hw0]; exact hnew _ _
        have k0 : w0.cell? ⟨w.heap.size, 0, none⟩ = some (.slice gf m.funcs.length capf) := hcell hk 0
        have k2 : w0.cell? ⟨w.heap.size, 2, none⟩ = some (.slice gk m.classes.length capk) := hcell hk 2
        have HB0 := hide hb0
        rw [hw0]
        clear hw0 hb0 hk
        go_loopg [3, 4] m.funcs.length (fun gg s i wr => ∃ (k : Nat) (t : Int), k ≤ m.funcs.length ∧ gg = m.funcs.length - k ∧ i = .int .i64 k ∧ s = .int .i64 t ∧ Hid (∃ n, wr = w0.drewN n))
        case atStart => exact ⟨0, 0, Nat.zero_le _, rfl, rfl, rfl, 0, rfl⟩
        case round =>
          obtain ⟨k, t, hk, rfl, rfl, rfl, HW⟩ := hrel
          obtain ⟨n, hn⟩ := unhide HW
          have e0 : wr.cell? ⟨w.heap.size, 0, none⟩ = some (.slice gf m.funcs.length capf) := by rw [hn]; exact k0
          have e2 : wr.cell? ⟨w.heap.size, 2, none⟩ = some (.slice gk m.classes.length capk) := by rw [hn]; exact k2
          have HNW := hide hn
          by_cases hlt : k < m.funcs.length
          · have hx : m.funcs[k]? = some (m.funcs[k]'hlt) := List.getElem?_eq_getElem _
            generalize (m.funcs[k]'hlt) = x at *
            obtain ⟨gb, go, rfl, hF⟩ := FnAt.of_rows (unhide HRF) hlt (unhide HRRF k x hx)
            obtain ⟨g3, p3, e3, _, _⟩ := hF.fn.2.2.2.1
            obtain ⟨g4, p4, e4, _, _⟩ := hF.fn.2.2.2.2.1
            obtain ⟨g5, p5, e5, _, _⟩ := hF.fn.2.2.2.2.2
            have hF2 := hF.keep (unhide HB0)
            have i3 : wr.cell? ⟨gb, go + k * 6 + 3, none⟩ = some (.slice g3 x.code.length p3) := by rw [hn, ← e3]; exact hF2.c3
            have i4 : wr.cell? ⟨gb, go + k * 6 + 4, none⟩ = some (.slice g4 x.hands.length p4) := by rw [hn, ← e4]; exact hF2.c4
            have i5 : wr.cell? ⟨gb, go + k * 6 + 5, none⟩ = some (.slice g5 x.vars.length p5) := by rw [hn, ← e5]; exact hF2.c5
            have hk2 : (k : Int) < (m.funcs.length : Int) := by omega
            clear hx hF hF2 e3 e4 e5 hn k0 k2
            go_wp2_with fail
            go_quiet (fail)
            go_wp2_with fail
            go_roundg (m.funcs.length - (k + 1))
            case measure => omega
            case rel => exact ⟨k + 1, _, by omega, rfl, by go_num, rfl, _, by rw [unhide HNW, World.drewN_drewN]⟩
          · obtain rfl : k = m.funcs.length := by omega
            have hff : decide ((m.funcs.length : Int) < (m.funcs.length : Int)) = false := by simp
            clear hn hlt hk k0
            go_wp2_with fail
            go_loopg [3, 5] m.classes.length (fun gg s i wx => ∃ (k : Nat) (t : Int), k ≤ m.classes.length ∧ gg = m.classes.length - k ∧ i = .int .i64 k ∧ s = .int .i64 t ∧ Hid (∃ n, wx = w0.drewN n))
            case atStart => exact ⟨0, t, Nat.zero_le _, rfl, rfl, rfl, unhide HW⟩
            case round =>
              obtain ⟨k, t, hk, rfl, rfl, rfl, HW⟩ := hrel
              obtain ⟨n, hn⟩ := unhide HW
              have e2 : wr.cell? ⟨w.heap.size, 2, none⟩ = some (.slice gk m.classes.length capk) := by rw [hn]; exact k2
              have HNW := hide hn
              by_cases hlt : k < m.classes.length
              · have hx : m.classes[k]? = some (m.classes[k]'hlt) := List.getElem?_eq_getElem _
                generalize (m.classes[k]'hlt) = x at *
                obtain ⟨gb, go, rfl, hK⟩ := KdAt.of_rows (unhide HRK) hlt (unhide HRRK k x hx)
                obtain ⟨g2, p2, q2, _, _⟩ := hK.kd.2.2.1
                obtain ⟨g3, p3, q3, _, _⟩ := hK.kd.2.2.2.1
                obtain ⟨g4, p4, q4, _, _⟩ := hK.kd.2.2.2.2
                have i2 : wr.cell? ⟨gb, go + k * 5 + 2, none⟩ = some (.slice g2 x.fields.length p2) := by rw [hn, ← q2]; exact cellk (unhide HB0) hK.c2 (cell_lt hK.c2)
                have i3 : wr.cell? ⟨gb, go + k * 5 + 3, none⟩ = some (.slice g3 x.names.length p3) := by rw [hn, ← q3]; exact cellk (unhide HB0) hK.c3 (cell_lt hK.c3)
                have i4 : wr.cell? ⟨gb, go + k * 5 + 4, none⟩ = some (.slice g4 x.meths.length p4) := by rw [hn, ← q4]; exact cellk (unhide HB0) hK.c4 (cell_lt hK.c4)
                have hk2 : (k : Int) < (m.classes.length : Int) := by omega
                clear hx hK q2 q3 q4 hn k2
                go_wp2_with fail
                go_quiet (fail)
                go_wp2_with fail
                go_roundg (m.classes.length - (k + 1))
                case measure => omega
                case rel => exact ⟨k + 1, _, by omega, rfl, by go_num, rfl, _, by rw [unhide HNW, World.drewN_drewN]⟩
              · obtain rfl : k = m.classes.length := by omega
                have hff2 : decide ((m.classes.length : Int) < (m.classes.length : Int)) = false := by simp
                clear hn hlt hk k2
                go_wp2_with fail
                go_ret
                exact ⟨by rw [unhide HNW]; exact Bl.drewN (unhide HB0) _, _, rfl, fun _ => unhide HBD⟩
end Go.Proofs.YtcbgcjkcfolcoaaDoor

namespace Go.Proofs.YtcbgcjkcfolcoaaDoor
open Go.RowKit

/-- Of what was there, block r alone may have turned. -/
structure Ext (r : Nat) (w w' : World) : Prop where
  os : w'.os = w.os
  tape : w'.tape = w.tape
  output : w'.output = w.output
  size : w.heap.size ≤ w'.heap.size
  block : ∀ k, k < w.heap.size → k ≠ r → w'.heap[k]? = w.heap[k]?
theorem Ext.refl (r : Nat) (w : World) : Ext r w w := ⟨rfl, rfl, rfl, Nat.le_refl _, fun _ _ _ => rfl⟩
theorem Ext.trans {r : Nat} {a b c : World} (h : Ext r a b) (k : Ext r b c) : Ext r a c :=
  ⟨k.os.trans h.os, k.tape.trans h.tape, k.output.trans h.output, Nat.le_trans h.size k.size, fun i hi hr => (k.block i (Nat.lt_of_lt_of_le hi h.size) hr).trans (h.block i hi hr)⟩
theorem Ext.alloc {r : Nat} {a w : World} (h : Ext r a w) (o : Obj) : Ext r a (w.alloc o) :=
  h.trans ⟨rfl, rfl, rfl, by simp, fun k hk _ => Below.heap_alloc _ _ _ hk⟩
theorem Ext.drewN {r : Nat} {a w : World} (h : Ext r a w) (n : Nat) : Ext r a (w.drewN n) := ⟨h.os, h.tape, h.output, h.size, h.block⟩
theorem Ext.setCell {r : Nat} {a w : World} (h : Ext r a w) (i : Nat) (v : Value) : Ext r a (w.setCell ⟨r, i, none⟩ v) :=
  h.trans ⟨rfl, rfl, rfl, by simp [World.setCell], fun k _ hr => Below.heap_setCell _ _ _ _ hr⟩
theorem Ext.grown {r : Nat} {a w w' : World} {row : Option Nat} (h : Ext r a w) (hg : w.grownBy w' row) (hr : ∀ k, row = some k → a.heap.size ≤ k) : Ext r a w' :=
  ⟨hg.os.trans h.os, hg.tape.trans h.tape, hg.output.trans h.output, Nat.le_trans h.size hg.size, fun k hk hne => (hg.block k (Nat.lt_of_lt_of_le hk h.size) (fun e => by have := hr k e.symm; omega)).trans (h.block k hk hne)⟩
theorem Ext.below {r B : Nat} {a w : World} (h : Ext r a w) (hB : B ≤ a.heap.size) (hr : B ≤ r) : Below B a w := ⟨h.os, h.tape, h.output, h.size, fun k hk => h.block k (by omega) (by omega)⟩

/-- A flat list of rows. -/
def Flat (xs : List Value) (n k : Nat) (R : Nat → Nat → Value) : Prop := ∀ i j, i < n → j < k → xs[i * k + j]? = some (R i j)
theorem Flat.nil (k : Nat) (R : Nat → Nat → Value) : Flat [] 0 k R := fun i _ hi => absurd hi (Nat.not_lt_zero i)
theorem Flat.snoc {xs news : List Value} {n k : Nat} {R : Nat → Nat → Value} (h : Flat xs n k R) (hl : xs.length = n * k) (hn : ∀ j, j < k → news[j]? = some (R n j)) : Flat (xs ++ news) (n + 1) k R := by
  intro i j hi hj
  by_cases e : i = n
  · subst e
    rw [List.getElem?_append_right (by omega), show i * k + j - xs.length = j by omega]
    exact hn j hj
  · have h1 : i * k + j < n * k := by
      have : (i + 1) * k ≤ n * k := Nat.mul_le_mul_right k (by omega)
      rw [Nat.add_mul] at this
      omega
    rw [List.getElem?_append_left (by omega)]
    exact h i j (by omega) hj
theorem rows_of_owns {w : World} {B : Nat} {e : TypeId} {k : Nat} {v : Value} {n : Nat} {xs : List Value} {R : Nat → Nat → Value} (h : w.ownsRow B e k v n xs) (hf : Flat xs n k R) : ∃ g cap, v = .slice g n cap ∧ RowsAt w g n k R := by
  rcases h.2 with ⟨rfl, rfl⟩ | ⟨g, cap, cur, rfl, h2, h3, h4, h5, h6, h7⟩
  · exact ⟨none, 0, rfl, fun i hi => absurd hi (Nat.not_lt_zero i)⟩
  · refine ⟨_, cap, rfl, fun i hi => ⟨g, 0, rfl, fun j hj => ?_⟩⟩
    have hx := hf i j hi hj
    have h1 : i * k + j < n * k := by
      have : (i + 1) * k ≤ n * k := Nat.mul_le_mul_right k (by omega)
      rw [Nat.add_mul] at this
      omega
    rw [Nat.zero_add, hcell h3, ← Array.getElem?_toList]
    rw [← h7, List.getElem?_take] at hx
    simpa [h1] using hx

theorem infoConst : (Tryd.prog.info? 85).map (fun i => (i.zero, i.size, i.bytes)) = some (some (.agg #[.bool false, .string ByteArray.empty, .int .i64 0]), 3, 32) := by kernel_rfl
theorem infoKind : (Tryd.prog.info? 76).map (fun i => (i.zero, i.size, i.bytes)) = some (some (.agg #[.string ByteArray.empty, .int .i64 0, .slice none 0 0, .slice none 0 0, .slice none 0 0]), 5, 96) := by kernel_rfl
theorem infoFunc : (Tryd.prog.info? 81).map (fun i => (i.zero, i.size, i.bytes)) = some (some (.agg #[.string ByteArray.empty, .int .i64 0, .int .i64 0, .slice none 0 0, .slice none 0 0, .slice none 0 0]), 6, 104) := by kernel_rfl
theorem infoInstr : (Tryd.prog.info? 88).map (fun i => (i.zero, i.size, i.bytes)) = some (some (.agg #[.int .i64 0, .int .i64 0, .int .i64 0]), 3, 24) := by kernel_rfl
theorem infoHand : (Tryd.prog.info? 91).map (fun i => (i.zero, i.size, i.bytes)) = some (some (.agg #[.int .i64 0, .int .i64 0, .int .i64 0]), 3, 24) := by kernel_rfl
theorem infoSlot : (Tryd.prog.info? 94).map (fun i => (i.zero, i.size, i.bytes)) = some (some (.agg #[.string ByteArray.empty, .int .i64 0, .int .i64 0, .int .i64 0, .bool false]), 5, 48) := by kernel_rfl

/-- The image's block, and the row that grows behind its cell i. -/
structure Mk (w0 w : World) (ib : Nat) (cs : Array Value) (i : Nat) (e : TypeId) (k : Nat) (v : Value) (n : Nat) (xs : List Value) : Prop where
  ext : Ext ib w0 w
  blk : ∃ t, w.heap[ib]? = some (.cells (cs.setIfInBounds i v) t (0, 0))
  own : w.ownsRow w0.heap.size e k v n xs
  lt : ib < w0.heap.size
  sz : i < cs.size
theorem Mk.cell {w0 w : World} {ib : Nat} {cs : Array Value} {i : Nat} {e : TypeId} {k : Nat} {v : Value} {n : Nat} {xs : List Value} (h : Mk w0 w ib cs i e k v n xs) : w.cell? ⟨ib, i, none⟩ = some v := by
  obtain ⟨t, hb⟩ := h.blk
  rw [hcell hb]
  have := h.sz
  simp [this]
theorem Mk.own_ne {w0 w : World} {ib : Nat} {cs : Array Value} {i : Nat} {e : TypeId} {k : Nat} {v : Value} {n : Nat} {xs : List Value} (h : Mk w0 w ib cs i e k v n xs) : ∀ j, v.ownBlock = some j → w0.heap.size ≤ j := by
  intro j hj
  rcases h.own.2 with ⟨rfl, _⟩ | ⟨g, cap, cur, rfl, h2, _⟩
  · simp [Value.ownBlock] at hj
  · simp only [Value.ownBlock, Option.some.injEq] at hj
    omega
theorem Mk.alloc {w0 w : World} {ib : Nat} {cs : Array Value} {i : Nat} {e : TypeId} {k : Nat} {v : Value} {n : Nat} {xs : List Value} (h : Mk w0 w ib cs i e k v n xs) (o : Obj) : Mk w0 (w.alloc o) ib cs i e k v n xs := by
  obtain ⟨h1, ⟨t, h2⟩, h3, h4, h5⟩ := h
  exact ⟨h1.alloc o, ⟨t, (Below.heap_alloc _ _ _ (hlt h2)).trans h2⟩, owns_alloc h3 o, h4, h5⟩
theorem Mk.drewN {w0 w : World} {ib : Nat} {cs : Array Value} {i : Nat} {e : TypeId} {k : Nat} {v : Value} {n : Nat} {xs : List Value} (h : Mk w0 w ib cs i e k v n xs) (m : Nat) : Mk w0 (w.drewN m) ib cs i e k v n xs := ⟨h.ext.drewN m, h.blk, h.own, h.lt, h.sz⟩
/-- Behind an append, and behind the store. -/
theorem Mk.more {w0 w w3 : World} {ib : Nat} {cs : Array Value} {i : Nat} {e : TypeId} {k : Nat} {v : Value} {n : Nat} {xs news : List Value} (h : Mk w0 w ib cs i e k v n xs) {g cap : Nat}
    (hown : w3.ownsRow w0.heap.size e k (.slice (some ⟨g, 0, none⟩) (n + 1) cap) (n + 1) (xs ++ news)) (hg : w.grownBy w3 v.ownBlock) (hat : v.ownBlock = some g ∨ g = w.heap.size) :
    w3.cell? ⟨ib, i, none⟩ = some v ∧ w3.frozen? ⟨ib, i, none⟩ = false ∧ Mk w0 (w3.setCell ⟨ib, i, none⟩ (.slice (some ⟨g, 0, none⟩) (n + 1) cap)) ib cs i e k (.slice (some ⟨g, 0, none⟩) (n + 1) cap) (n + 1) (xs ++ news) := by
  have hne := h.own_ne
  have hcell0 := h.cell
  obtain ⟨h1, ⟨t, h2⟩, h3, h4, h5⟩ := h
  have hi3 : w3.heap[ib]? = some (.cells (cs.setIfInBounds i v) t (0, 0)) := (hg.block ib (hlt h2) (fun e => by have := hne ib e.symm; omega)).trans h2
  have hgi : g ≠ ib := by
    rcases hat with e | e
    · have := hne g e; omega
    · have := hlt h2; omega
  refine ⟨(World.cell?_of_block (hi3.trans h2.symm)).trans hcell0, hfroz hi3 i, ⟨(h1.grown hg hne).setCell i _, ⟨t, ?_⟩, ?_, h4, h5⟩⟩
  · rw [hset hi3]
    congr 1
    apply congrArg (fun z => Obj.cells z t (0, 0))
    apply Array.ext_getElem?
    intro j
    simp only [Array.getElem?_setIfInBounds, Array.size_setIfInBounds]
    split <;> rfl
  · refine ⟨hown.1, ?_⟩
    rcases hown.2 with ⟨q, _⟩ | ⟨g', cap', cur, q1, q2, q3, q4⟩
    · cases q
    · cases q1
      exact Or.inr ⟨g, cap, cur, rfl, q2, (hother _ hgi).trans q3, q4⟩
theorem Mk.like {w0 w w' : World} {ib : Nat} {cs : Array Value} {i : Nat} {e : TypeId} {k : Nat} {v : Value} {n : Nat} {xs : List Value} (h : Mk w0 w ib cs i e k v n xs) (hh : w'.heap = w.heap) (ho : w'.os = w.os) (ht : w'.tape = w.tape) (hp : w'.output = w.output) : Mk w0 w' ib cs i e k v n xs := by
  obtain ⟨h1, ⟨t, h2⟩, ⟨h3, h3'⟩, h4, h5⟩ := h
  refine ⟨⟨ho.trans h1.os, ht.trans h1.tape, hp.trans h1.output, by rw [hh]; exact h1.size, fun j hj hr => by rw [hh]; exact h1.block j hj hr⟩, ⟨t, by rw [hh]; exact h2⟩, ⟨h3, ?_⟩, h4, h5⟩
  rcases h3' with q | ⟨g, cap, cur, q1, q2, q3, q4⟩
  · exact Or.inl q
  · exact Or.inr ⟨g, cap, cur, q1, q2, by rw [hh]; exact q3, q4⟩
theorem Mk.own_lt {w0 w : World} {ib : Nat} {cs : Array Value} {i : Nat} {e : TypeId} {k : Nat} {v : Value} {n : Nat} {xs : List Value} (h : Mk w0 w ib cs i e k v n xs) : ∀ j, v.ownBlock = some j → j < w.heap.size := by
  intro j hj
  rcases h.own.2 with ⟨rfl, _⟩ | ⟨g, cap, cur, rfl, h2, h3, _⟩
  · simp [Value.ownBlock] at hj
  · simp only [Value.ownBlock, Option.some.injEq] at hj
    subst hj
    exact hlt h3
/-- A row is appended to out of a copy that was laid beside it. -/
theorem Mk.grow {w0 wr W w3 : World} {ib : Nat} {cs : Array Value} {i : Nat} {e : TypeId} {k : Nat} {v : Value} {n : Nat} {xs news : List Value} (h : Mk w0 wr ib cs i e k v n xs) {o1 o2 : Obj}
    (hh : W.heap = ((wr.alloc o1).alloc o2).heap) (ho : W.os = wr.os) (ht : W.tape = wr.tape) (hp : W.output = wr.output) {g cap : Nat}
    (hown : w3.ownsRow w0.heap.size e k (.slice (some ⟨g, 0, none⟩) (n + 1) cap) (n + 1) (xs ++ news)) (hg : W.grownBy w3 v.ownBlock) (hat : v.ownBlock = some g ∨ g = wr.heap.size + 1 + 1) :
    w3.cell? ⟨ib, i, none⟩ = some v ∧ w3.frozen? ⟨ib, i, none⟩ = false ∧ w3.heap[wr.heap.size]? = some o1 ∧ Hid (Mk w0 (w3.setCell ⟨ib, i, none⟩ (.slice (some ⟨g, 0, none⟩) (n + 1) cap)) ib cs i e k (.slice (some ⟨g, 0, none⟩) (n + 1) cap) (n + 1) (xs ++ news)) := by
  have hW : Mk w0 W ib cs i e k v n xs := ((h.alloc o1).alloc o2).like hh ho ht hp
  have hsz : W.heap.size = wr.heap.size + 1 + 1 := by rw [hh]; simp
  obtain ⟨q1, q2, q3⟩ := hW.more hown hg (by rw [hsz]; exact hat)
  refine ⟨q1, q2, ?_, q3⟩
  rw [hg.block wr.heap.size (by omega) (fun e => by have := h.own_lt _ e.symm; omega), hh, Below.heap_alloc _ _ _ (by simp)]
  exact hnew _ _
end Go.Proofs.YtcbgcjkcfolcoaaDoor

namespace Go.Proofs.YtcbgcjkcfolcoaaDoor
open Go.RowKit

theorem Mk.start {w : World} {ib i k : Nat} {cs : Array Value} {e : TypeId} {t : TypeId} (hb : w.heap[ib]? = some (.cells (cs.setIfInBounds i (.slice none 0 0)) t (0, 0))) (hi : i < cs.size) : Mk w w ib cs i e k (.slice none 0 0) 0 [] :=
  ⟨Ext.refl _ _, ⟨t, hb⟩, ⟨by simp, Or.inl ⟨rfl, rfl⟩⟩, hlt hb, hi⟩
theorem Mk.below {w0 w w' : World} {ib : Nat} {cs : Array Value} {i : Nat} {e : TypeId} {k : Nat} {v : Value} {n : Nat} {xs : List Value} (h : Mk w0 w ib cs i e k v n xs) (hb : Below w.heap.size w w') : Mk w0 w' ib cs i e k v n xs := by
  obtain ⟨h1, ⟨t, h2⟩, ⟨h3, h3'⟩, h4, h5⟩ := h
  refine ⟨h1.trans ⟨hb.os, hb.tape, hb.output, hb.size, fun j hj _ => hb.block j hj⟩, ⟨t, (hb.block _ (hlt h2)).trans h2⟩, ⟨h3, ?_⟩, h4, h5⟩
  rcases h3' with q | ⟨g, cap, cur, q1, q2, q3, q4⟩
  · exact Or.inl q
  · exact Or.inr ⟨g, cap, cur, q1, q2, (hb.block _ (hlt q3)).trans q3, q4⟩
/-- As Mk.grow, where no copy was laid. -/
theorem Mk.grow1 {w0 wr W w3 : World} {ib : Nat} {cs : Array Value} {i : Nat} {e : TypeId} {k : Nat} {v : Value} {n : Nat} {xs news : List Value} (h : Mk w0 wr ib cs i e k v n xs) {o2 : Obj}
    (hh : W.heap = (wr.alloc o2).heap) (ho : W.os = wr.os) (ht : W.tape = wr.tape) (hp : W.output = wr.output) {g cap : Nat}
    (hown : w3.ownsRow w0.heap.size e k (.slice (some ⟨g, 0, none⟩) (n + 1) cap) (n + 1) (xs ++ news)) (hg : W.grownBy w3 v.ownBlock) (hat : v.ownBlock = some g ∨ g = wr.heap.size + 1) :
    w3.cell? ⟨ib, i, none⟩ = some v ∧ w3.frozen? ⟨ib, i, none⟩ = false ∧ (∀ j, j < wr.heap.size → v.ownBlock ≠ some j → w3.heap[j]? = wr.heap[j]?) ∧ Hid (Mk w0 (w3.setCell ⟨ib, i, none⟩ (.slice (some ⟨g, 0, none⟩) (n + 1) cap)) ib cs i e k (.slice (some ⟨g, 0, none⟩) (n + 1) cap) (n + 1) (xs ++ news)) := by
  have hW : Mk w0 W ib cs i e k v n xs := (h.alloc o2).like hh ho ht hp
  have hsz : W.heap.size = wr.heap.size + 1 := by rw [hh]; simp
  obtain ⟨q1, q2, q3⟩ := hW.more hown hg (by rw [hsz]; exact hat)
  refine ⟨q1, q2, fun j hj hne => ?_, q3⟩
  rw [hg.block j (by omega) (fun e => hne e.symm), hh]
  exact Below.heap_alloc _ _ _ hj

/-- A slice lies in a block. -/
def liesIn (v : Value) (j : Nat) : Prop := ∃ o n cap, v = .slice (some ⟨j, o, none⟩) n cap
theorem SlAt.far {w w' : World} {v : Value} {n k b : Nat} {R : Nat → Nat → Value} (h : SlAt w v n k b R) (hb : ∀ j, liesIn v j → w'.heap[j]? = w.heap[j]?) : SlAt w' v n k b R := by
  obtain ⟨g, cap, rfl, h2, h3⟩ := h
  refine ⟨g, cap, rfl, h2, fun i hi => ?_⟩
  obtain ⟨q, o, rfl, h5⟩ := h3 i hi
  exact ⟨q, o, rfl, fun j hj => (World.cell?_of_block (hb q ⟨o, n, cap, rfl⟩)).trans (h5 j hj)⟩
/-- Its rows lie behind a mark. -/
def SlOwn (w : World) (B : Nat) (v : Value) (n k b : Nat) (R : Nat → Nat → Value) : Prop := SlAt w v n k b R ∧ ∀ j, liesIn v j → B ≤ j ∧ j < w.heap.size
theorem SlOwn.ext {w w' : World} {B r : Nat} {v : Value} {n k b : Nat} {R : Nat → Nat → Value} (h : SlOwn w B v n k b R) (he : Ext r w w') (hr : r < B) : SlOwn w' B v n k b R :=
  ⟨h.1.far fun j hj => he.block j (h.2 j hj).2 (by have := (h.2 j hj).1; omega), fun j hj => ⟨(h.2 j hj).1, Nat.lt_of_lt_of_le (h.2 j hj).2 he.size⟩⟩
theorem SlOwn.of {w0 w : World} {ib : Nat} {cs : Array Value} {i : Nat} {e : TypeId} {k : Nat} {v : Value} {n : Nat} {xs : List Value} {R : Nat → Nat → Value} {b B : Nat} (h : Mk w0 w ib cs i e k v n xs) (hf : Flat xs n k R) (hb : n * b ≤ 140737488355328) (hB : B ≤ w0.heap.size) : SlOwn w B v n k b R := by
  obtain ⟨g, cap, h1, h2⟩ := rows_of_owns h.own hf
  refine ⟨⟨g, cap, h1, hb, h2⟩, fun j hj => ?_⟩
  obtain ⟨o, n', c', rfl⟩ := hj
  rcases h.own.2 with ⟨q, _⟩ | ⟨g', cap', cur, q1, q2, q3, _⟩
  · cases q
  · cases q1
    exact ⟨by omega, hlt q3⟩

/-- A function whose rows lie outside of what is written to. -/
def FnOwn (w : World) (no : Nat → Prop) (C : Nat → Value) (f : PF) : Prop := FnIs w C f ∧ ∀ c j, liesIn (C c) j → j < w.heap.size ∧ ¬ no j
theorem FnOwn.move {w w' : World} {no no' : Nat → Prop} {C : Nat → Value} {f : PF} (h : FnOwn w no C f) (hs : w.heap.size ≤ w'.heap.size) (hb : ∀ j, j < w.heap.size → ¬ no j → w'.heap[j]? = w.heap[j]?) (hn : ∀ j, j < w.heap.size → no' j → no j) : FnOwn w' no' C f := by
  obtain ⟨⟨h1, h2, h3, h4, h5, h6⟩, h7⟩ := h
  exact ⟨⟨h1, h2, h3, h4.far fun j hj => hb j (h7 3 j hj).1 (h7 3 j hj).2, h5.far fun j hj => hb j (h7 4 j hj).1 (h7 4 j hj).2, h6.far fun j hj => hb j (h7 5 j hj).1 (h7 5 j hj).2⟩,
    fun c j hj => ⟨Nat.lt_of_lt_of_le (h7 c j hj).1 hs, fun q => (h7 c j hj).2 (hn j (h7 c j hj).1 q)⟩⟩
def noW (ib : Nat) (v : Value) (j : Nat) : Prop := j = ib ∨ v.ownBlock = some j
/-- So many functions are made. -/
def Fns (w : World) (ib : Nat) (v : Value) (R : Nat → Nat → Value) (l : List PF) (k : Nat) : Prop := ∀ i f, i < k → l[i]? = some f → FnOwn w (noW ib v) (R i) f
theorem Fns.below {w w' : World} {ib : Nat} {v : Value} {R : Nat → Nat → Value} {l : List PF} {k : Nat} (h : Fns w ib v R l k) (hb : Below w.heap.size w w') : Fns w' ib v R l k :=
  fun i f hi hf => (h i f hi hf).move hb.size (fun j hj _ => hb.block j hj) (fun _ _ q => q)
/-- A function's six values, once its three rows are made. -/
def fnRow (f : PF) (a b c : Value) (j : Nat) : Value := match j with | 0 => .string f.name | 1 => .int .i64 f.params | 2 => .int .i64 f.slots | 3 => a | 4 => b | 5 => c | _ => undef
theorem FnOwn.of {w : World} {f : PF} {a b c : Value} {B : Nat} {no : Nat → Prop} (ha : SlOwn w B a f.code.length 3 24 (instrRow f.code)) (hb : SlOwn w B b f.hands.length 3 24 (handRow f.hands)) (hc : SlOwn w B c f.vars.length 5 48 (varRow f.vars)) (hn : ∀ j, no j → j < B) : FnOwn w no (fnRow f a b c) f := by
  refine ⟨⟨rfl, rfl, rfl, ha.1, hb.1, hc.1⟩, fun i j hj => ?_⟩
  have hh : B ≤ j ∧ j < w.heap.size := by
    match i, hj with
    | 0, ⟨_, _, _, q⟩ => cases q
    | 1, ⟨_, _, _, q⟩ => cases q
    | 2, ⟨_, _, _, q⟩ => cases q
    | 3, q => exact ha.2 j q
    | 4, q => exact hb.2 j q
    | 5, q => exact hc.2 j q
    | _ + 6, ⟨_, _, _, q⟩ => cases q
  exact ⟨hh.2, fun q => by have := hn j q; omega⟩
/-- One function more. -/
theorem Fns.snoc {w w3 w' : World} {ib : Nat} {v : Value} {R : Nat → Nat → Value} {l : List PF} {k : Nat} {C : Nat → Value} {f : PF} {g n cap : Nat} (h : Fns w ib v R l k) (hx : l[k]? = some f) (hf : FnOwn w (noW ib v) C f)
    (hs : w.heap.size ≤ w3.heap.size) (hb : ∀ j, j < w.heap.size → v.ownBlock ≠ some j → w3.heap[j]? = w.heap[j]?) (hat : v.ownBlock = some g ∨ g = w.heap.size + 1) {i : Nat} {u : Value} (hw : w' = w3.setCell ⟨ib, i, none⟩ u) :
    Fns w' ib (.slice (some ⟨g, 0, none⟩) n cap) (fun i => if i = k then C else R i) l (k + 1) := by
  subst hw
  have key : ∀ {C f}, FnOwn w (noW ib v) C f → FnOwn (w3.setCell ⟨ib, i, none⟩ u) (noW ib (.slice (some ⟨g, 0, none⟩) n cap)) C f := fun q =>
    q.move (by simpa [World.setCell] using hs) (fun j hj hn => (hother u (fun e => hn (Or.inl e))).trans (hb j hj fun e => hn (Or.inr e))) (fun j hj q => by
      rcases q with q | q
      · exact Or.inl q
      · simp only [Value.ownBlock, Option.some.injEq] at q
        rcases hat with e | e
        · exact Or.inr (by rw [e, q])
        · omega)
  intro i' f' hi' hf'
  by_cases e : i' = k
  · subst e
    rw [hx] at hf'
    cases hf'
    simp only [if_pos]
    exact key hf
  · simp only [if_neg e]
    exact key (h i' f' (by omega) hf')
theorem Flat.turn {xs : List Value} {n k : Nat} {R R' : Nat → Nat → Value} (h : Flat xs n k R) (hR : ∀ i, i < n → R' i = R i) : Flat xs n k R' := fun i j hi hj => by rw [hR i hi]; exact h i j hi hj
end Go.Proofs.YtcbgcjkcfolcoaaDoor
