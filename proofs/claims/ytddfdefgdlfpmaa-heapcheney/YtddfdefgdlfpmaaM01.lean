/-
  Small facts about memory.
  heap.New, for any two numbers.
-/
import Derived.Test.YtddfdefgdlfpmaaRows
import Derived.WalkKit
import Derived.WalkSpells
import Derived.WalkLawsBesides
import Derived.Deep.QuietTactic
import Derived.BigQuiet
import Derived.Deep.RegionHeld3
import Derived.Deep.DeepCutAuto
import Derived.Deep.LoopGhost
import Derived.Deep.AppendLies
namespace Go.Proofs.Ytddfdefgdlfpmaa
open Go.RowKit

theorem hide {p : Prop} (h : p) : Hid p := h
theorem unhide {p : Prop} (h : Hid p) : p := h
theorem rb {a b : Bool} (h : a = b) : Ending.returned (.bool a) = .returned (.bool b) := by rw [h]
theorem cell_lt {w : World} {a : Addr} {v : Value} (h : w.cell? a = some v) : a.block < w.heap.size := by
  rcases Nat.lt_or_ge a.block w.heap.size with k | k
  · exact k
  · simp [World.cell?, Array.getElem?_eq_none k] at h
theorem cellk {B : Nat} {w w' : World} (hb : Below B w w') {a : Addr} {v : Value} (h : w.cell? a = some v) (hl : a.block < B) : w'.cell? a = some v := (hb.cell hl).trans h
def iv (n : Int) : Value := .int .i64 n
def I64 (n : Int) : Prop := -9223372036854775808 ≤ n ∧ n ≤ 9223372036854775807
theorem hcell {w : World} {b : Nat} {cs : Array Value} {t : TypeId} {fr : Nat × Nat} (h : w.heap[b]? = some (.cells cs t fr)) (i : Nat) : w.cell? ⟨b, i, none⟩ = cs[i]? := by
  simp [World.cell?, h]
theorem hfroz {w : World} {b : Nat} {cs : Array Value} {t : TypeId} (h : w.heap[b]? = some (.cells cs t (0, 0))) (i : Nat) : w.frozen? ⟨b, i, none⟩ = false := by
  simp [World.frozen?, h]
theorem hset {w : World} {b : Nat} {cs : Array Value} {t : TypeId} {fr : Nat × Nat} (h : w.heap[b]? = some (.cells cs t fr)) (i : Nat) (v : Value) : (w.setCell ⟨b, i, none⟩ v).heap[b]? = some (.cells (cs.setIfInBounds i v) t fr) := by
  simp [World.setCell, h, Array.getElem?_modify]
theorem hother {w : World} {b i : Nat} {j : Nat} (v : Value) (h : j ≠ b) : (w.setCell ⟨b, i, none⟩ v).heap[j]? = w.heap[j]? := Below.heap_setCell _ _ _ _ h
theorem hlt {w : World} {b : Nat} {o : Obj} (h : w.heap[b]? = some o) : b < w.heap.size := (Array.getElem?_eq_some_iff.1 h).1

theorem hnew (w : World) (o : Obj) : (w.alloc o).heap[w.heap.size]? = some o := by
  show (w.heap.push o)[w.heap.size]? = _
  simp
theorem news_at {W : World} {H : Nat} (hH : W.heap.size = H) (cs : Array Value) (t : TypeId) : ∀ j u, cs.toList[j]? = some u → (W.alloc (.cells cs t)).cell? ((⟨H, 0, none⟩ : Addr).add j) = some u :=
  World.news_of_block (B := H) (by rw [← hH]; exact hnew _ _)
theorem one_ints (n : Int) : ∀ u ∈ [Value.int .i64 n], u.oneCell' = true := fun u hu => by simp at hu; subst hu; rfl
theorem Bl.drewN {B : Nat} {a w : World} (h : Below B a w) (n : Nat) : Below B a (w.drewN n) := ⟨h.os, h.tape, h.output, h.size, h.block⟩
theorem cell_al {w : World} {a : Addr} {v : Value} (h : w.cell? a = some v) : ∀ o, (w.alloc o).cell? a = some v := fun o => by
  rw [World.cell?_alloc_lt _ _ a (cell_lt h)]; exact h
theorem cell_setFar {w : World} {a : Addr} {v : Value} (h : w.cell? a = some v) {b : Nat} (hne : a.block ≠ b) (i : Nat) (u : Value) : (w.setCell ⟨b, i, none⟩ u).cell? a = some v := (World.cell?_of_block (hother u hne)).trans h
theorem Below.drew {B : Nat} {w w' : World} (h : Below B w w') : Below B w w'.drew := ⟨h.os, h.tape, h.output, h.size, h.block⟩
end Go.Proofs.Ytddfdefgdlfpmaa

namespace Go.Proofs.Ytddfdefgdlfpmaa
open Go.RowKit

/-- How many cells may not be. -/
def roomBad (n o : Int) : Bool := decide (n < 1) || decide (65536 < n) || decide (o < 1) || decide (1048576 < o)
def NewPostG (n o : Int) (w : World) (e : Ending) (w' : World) : Prop := Below w.heap.size w w' ∧
  ((roomBad n o = true ∧ e = .returned (.tuple #[.pointer none, .iface 45 (.int .i64 2)])) ∨
   (roomBad n o = false ∧ ∃ h mb, e = .returned (.tuple #[.pointer (some ⟨h, 0, none⟩), .nilIface]) ∧ w.heap.size ≤ h ∧ w.heap.size ≤ mb ∧ h ≠ mb ∧ w'.heap[mb]? = some (.map #[] 0) ∧
      w'.heap[h]? = some (.cells #[.int .i64 1, .slice none 0 0, .slice none 0 0, .int .i64 2, .slice none 0 0, .slice none 0 0, .int .i64 n, .int .i64 o, .slice none 0 0, .map (some mb), .int .i64 0, .int .i64 0, .int .i64 0] 51 (0, 0))))
theorem hnewAt (w : World) (o : Obj) {n : Nat} (hn : w.heap.size = n) : (w.alloc o).heap[n]? = some o := by
  rw [← hn]; exact hnew w o

set_option maxRecDepth 100000 in
set_option maxHeartbeats 2000000 in
theorem heapNew_any (n o : Int) (w : World) : Calls Try.prog 4 #[.int .i64 n, .int .i64 o] w fun e w' => NewPostG n o w e w' := by
  have mm : (Go.Instr.makeMap 49 none).run Try.prog w = .ok (.map (some w.heap.size)) (w.alloc (.map #[] 0)) := rfl
  by_cases h1 : n < 1
  · have HB : Hid (roomBad n o = true) := by simp [roomBad, h1, Hid]
    go_enter Try.func4, Try.ntmps4
    go_wp2_with fail
    go_ret2
    exact ⟨Below.refl _ _, Or.inl ⟨unhide HB, rfl⟩⟩
  by_cases h2 : 65536 < n
  · have HB : Hid (roomBad n o = true) := by simp [roomBad, h2, Hid]
    go_enter Try.func4, Try.ntmps4
    go_wp2_with fail
    go_ret2
    exact ⟨Below.refl _ _, Or.inl ⟨unhide HB, rfl⟩⟩
  by_cases h3 : o < 1
  · have HB : Hid (roomBad n o = true) := by simp [roomBad, h3, Hid]
    go_enter Try.func4, Try.ntmps4
    go_wp2_with fail
    go_ret2
    exact ⟨Below.refl _ _, Or.inl ⟨unhide HB, rfl⟩⟩
  by_cases h4 : 1048576 < o
  · have HB : Hid (roomBad n o = true) := by simp [roomBad, h4, Hid]
    go_enter Try.func4, Try.ntmps4
    go_wp2_with fail
    go_ret2
    exact ⟨Below.refl _ _, Or.inl ⟨unhide HB, rfl⟩⟩
  · have HB : Hid (roomBad n o = false) := by
      show roomBad n o = false
      unfold roomBad
      simp only [decide_eq_false h1, decide_eq_false h2, decide_eq_false h3, decide_eq_false h4, Bool.or_false]
    go_enter Try.func4, Try.ntmps4
    go_wp2_with fail
    go_ret2
    exact ⟨((Below.refl _ _).alloc (Nat.le_refl _) _).alloc (by simp) _, Or.inr ⟨unhide HB, _, w.heap.size, rfl, by simp, Nat.le_refl _, by simp, (Below.heap_alloc _ _ _ (by simp)).trans (hnew _ _), hnewAt _ _ (by simp)⟩⟩
end Go.Proofs.Ytddfdefgdlfpmaa
