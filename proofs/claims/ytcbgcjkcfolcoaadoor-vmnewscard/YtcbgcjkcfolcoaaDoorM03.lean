/-
  The ways' memory.
  One comes to an instruction.
-/
import Derived.Test.YtcbgcjkcfolcoaaDoorM02
import Derived.Deep.AppendLies
namespace Go.Proofs.YtcbgcjkcfolcoaaDoor
open Go.RowKit

/-- How many values are noted at an instruction, as the program keeps it. -/
def noted (f : Nat → Option Nat) (p : Nat) : Int := match f p with | some n => n | none => -1
def notedCells (N : Nat) (f : Nat → Option Nat) : Array Value := ((List.range N).map fun p => Value.int .i64 (noted f p)).toArray
theorem notedCells_size (N : Nat) (f : Nat → Option Nat) : (notedCells N f).size = N := by simp [notedCells]
theorem notedCells_get {N : Nat} {f : Nat → Option Nat} {p : Nat} (h : p < N) : (notedCells N f)[p]? = some (.int .i64 (noted f p)) := by
  simp [notedCells, h]
theorem notedCells_set {N : Nat} {f : Nat → Option Nat} {p n : Nat} : (notedCells N f).setIfInBounds p (.int .i64 n) = notedCells N (upd f p n) := by
  apply Array.ext_getElem?
  intro i
  rw [Array.getElem?_setIfInBounds]
  by_cases hi : i < N
  · rw [notedCells_get hi]
    by_cases e : p = i
    · subst e
      rw [notedCells_get hi, if_pos rfl, if_pos (by rw [notedCells_size]; exact hi)]
      simp [noted, upd_same]
    · rw [notedCells_get hi, if_neg e]
      simp [noted, upd_other f p n (fun q => e q.symm)]
  · have h1 : (notedCells N f)[i]? = none := Array.getElem?_eq_none (by rw [notedCells_size]; omega)
    have h2 : (notedCells N (upd f p n))[i]? = none := Array.getElem?_eq_none (by rw [notedCells_size]; omega)
    rw [h1, h2]
    by_cases e : p = i
    · subst e
      rw [if_pos rfl, if_neg (by rw [notedCells_size]; exact hi)]
    · rw [if_neg e]
theorem noted_none {f : Nat → Option Nat} {p : Nat} (h : f p = none) : noted f p = -1 := by simp [noted, h]
theorem noted_some {f : Nat → Option Nat} {p n : Nat} (h : f p = some n) : noted f p = n := by simp [noted, h]

def natV (n : Nat) : Value := .int .i64 n
/-- The struct 'ways' at block r, its values at block vb; all of the call's own from B on. -/
structure WaysAt (B : Nat) (w : World) (r vb : Nat) (vcode vopen : Value) (N : Nat) (f : Nat → Option Nat) (o : List Nat) : Prop where
  r0 : B ≤ r
  vb0 : B ≤ vb
  ne : vb ≠ r
  ro : ∀ j, vopen.ownBlock = some j → B ≤ j ∧ j ≠ r ∧ j ≠ vb
  blk : ∃ t, w.heap[r]? = some (.cells #[vcode, .slice (some ⟨vb, 0, none⟩) N N, vopen] t (0, 0))
  vals : ∃ t, w.heap[vb]? = some (.cells (notedCells N f) t (0, 0))
  opn : w.ownsRow B 3 1 vopen o.length (o.map natV)

theorem hcell {w : World} {b : Nat} {cs : Array Value} {t : TypeId} {fr : Nat × Nat} (h : w.heap[b]? = some (.cells cs t fr)) (i : Nat) : w.cell? ⟨b, i, none⟩ = cs[i]? := by
  simp [World.cell?, h]
theorem hfroz {w : World} {b : Nat} {cs : Array Value} {t : TypeId} (h : w.heap[b]? = some (.cells cs t (0, 0))) (i : Nat) : w.frozen? ⟨b, i, none⟩ = false := by
  simp [World.frozen?, h]
theorem hset {w : World} {b : Nat} {cs : Array Value} {t : TypeId} {fr : Nat × Nat} (h : w.heap[b]? = some (.cells cs t fr)) (i : Nat) (v : Value) : (w.setCell ⟨b, i, none⟩ v).heap[b]? = some (.cells (cs.setIfInBounds i v) t fr) := by
  simp [World.setCell, h, Array.getElem?_modify]
theorem hother {w : World} {b i : Nat} {j : Nat} (v : Value) (h : j ≠ b) : (w.setCell ⟨b, i, none⟩ v).heap[j]? = w.heap[j]? := Below.heap_setCell _ _ _ _ h
theorem hlt {w : World} {b : Nat} {o : Obj} (h : w.heap[b]? = some o) : b < w.heap.size := (Array.getElem?_eq_some_iff.1 h).1

theorem WaysAt.keep {B : Nat} {w w' : World} {r vb : Nat} {vcode vopen : Value} {N : Nat} {f : Nat → Option Nat} {o : List Nat} (h : WaysAt B w r vb vcode vopen N f o) (hb : Below w.heap.size w w') : WaysAt B w' r vb vcode vopen N f o := by
  obtain ⟨r0, vb0, ne, ro, ⟨t1, b1⟩, ⟨t2, b2⟩, hop⟩ := h
  refine ⟨r0, vb0, ne, ro, ⟨t1, (hb.block r (hlt b1)).trans b1⟩, ⟨t2, (hb.block vb (hlt b2)).trans b2⟩, hop.1, ?_⟩
  rcases hop.2 with h | ⟨g, cap, cur, h1, h2, h3, h4⟩
  · exact Or.inl h
  · exact Or.inr ⟨g, cap, cur, h1, h2, (hb.block g (hlt h3)).trans h3, h4⟩

theorem infoInt : (Tryd.prog.info? 3).map (fun i => (i.zero, i.size, i.bytes)) = some (some (.int .i64 0), 1, 8) := by kernel_rfl

/-- A number is noted, and put on the open list. -/
theorem WaysAt.note {B : Nat} {w : World} {r vb : Nat} {vcode vopen : Value} {N : Nat} {f : Nat → Option Nat} {o : List Nat} (h : WaysAt B w r vb vcode vopen N f o) (p n : Nat) : WaysAt B (w.setCell ⟨vb, p, none⟩ (.int .i64 n)) r vb vcode vopen N (upd f p n) o := by
  obtain ⟨r0, vb0, ne, ro, ⟨t1, b1⟩, ⟨t2, b2⟩, hop⟩ := h
  refine ⟨r0, vb0, ne, ro, ⟨t1, (hother _ (Ne.symm ne)).trans b1⟩, ⟨t2, by rw [hset b2, notedCells_set]⟩, hop.1, ?_⟩
  rcases hop.2 with h | ⟨g, cap, cur, h1, h2, h3, h4⟩
  · exact Or.inl h
  · exact Or.inr ⟨g, cap, cur, h1, h2, (hother _ (ro g (by rw [h1]; rfl)).2.2).trans h3, h4⟩

theorem WaysAt.push {B : Nat} {w w1 : World} {r vb : Nat} {vcode vopen : Value} {N : Nat} {f : Nat → Option Nat} {o : List Nat} (h : WaysAt B w r vb vcode vopen N f o) {p g cap : Nat}
    (hown : w1.ownsRow B 3 1 (.slice (some ⟨g, 0, none⟩) (o.length + 1) cap) (o.length + 1) (o.map natV ++ [natV p])) (hg : w.grownBy w1 vopen.ownBlock) (hat : vopen.ownBlock = some g ∨ g = w.heap.size) (hB : B ≤ w.heap.size) :
    w1.cell? ⟨r, 2, none⟩ = some vopen ∧ w1.frozen? ⟨r, 2, none⟩ = false ∧ WaysAt B (w1.setCell ⟨r, 2, none⟩ (.slice (some ⟨g, 0, none⟩) (o.length + 1) cap)) r vb vcode (.slice (some ⟨g, 0, none⟩) (o.length + 1) cap) N f (o ++ [p]) ∧ Below B w (w1.setCell ⟨r, 2, none⟩ (.slice (some ⟨g, 0, none⟩) (o.length + 1) cap)) := by
  obtain ⟨r0, vb0, ne, ro, ⟨t1, b1⟩, ⟨t2, b2⟩, hop⟩ := h
  have hr1 : w1.heap[r]? = some (.cells #[vcode, .slice (some ⟨vb, 0, none⟩) N N, vopen] t1 (0, 0)) := (hg.block r (hlt b1) (fun e => (ro r e.symm).2.1 rfl)).trans b1
  have hv1 : w1.heap[vb]? = some (.cells (notedCells N f) t2 (0, 0)) := (hg.block vb (hlt b2) (fun e => (ro vb e.symm).2.2 rfl)).trans b2
  have hgg : B ≤ g ∧ g ≠ r ∧ g ≠ vb := by
    rcases hat with e | e
    · exact ro g e
    · have := hlt b1; have := hlt b2; omega
  refine ⟨hcell hr1 2, hfroz hr1 2, ⟨r0, vb0, ne, fun j hj => ?_, ⟨t1, by rw [hset hr1]; rfl⟩, ⟨t2, (hother _ ne).trans hv1⟩, ?_⟩, ?_⟩
  · simp only [Value.ownBlock, Option.some.injEq] at hj
    subst hj
    exact hgg
  · have e : (o ++ [p]).map natV = o.map natV ++ [natV p] := by simp
    rw [e, List.length_append]
    refine ⟨hown.1, ?_⟩
    rcases hown.2 with ⟨h, _⟩ | ⟨g', cap', cur, h1, h2, h3, h4⟩
    · cases h
    · cases h1
      exact Or.inr ⟨g, cap, cur, rfl, h2, (hother _ hgg.2.1).trans h3, h4⟩
  · exact ((Below.refl B w).grown hg hB (fun k hk => (ro k hk).1)).setCell (p := ⟨r, 2, none⟩) r0 _
end Go.Proofs.YtcbgcjkcfolcoaaDoor

namespace Go.Proofs.YtcbgcjkcfolcoaaDoor
open Go.RowKit

/-- What a coming leaves behind. -/
def ComePost (B : Nat) (w : World) (r vb : Nat) (vcode : Value) (N : Nat) (f : Nat → Option Nat) (o : List Nat) (p n : Nat) (e : Ending) (w' : World) : Prop :=
  Below B w w' ∧
  ((comeP N f p n = none ∧ e = .returned (.bool false)) ∨
   (comeP N f p n = some (f, false) ∧ e = .returned (.bool true) ∧ w = w') ∨
   (comeP N f p n = some (upd f p n, true) ∧ f p = none ∧ e = .returned (.bool true) ∧ ∃ vopen, WaysAt B w' r vb vcode vopen N (upd f p n) (o ++ [p])))

theorem owns_alloc {w : World} {B : Nat} {e : TypeId} {size : Nat} {v : Value} {n : Nat} {xs : List Value} (h : w.ownsRow B e size v n xs) (ob : Obj) : (w.alloc ob).ownsRow B e size v n xs := by
  refine ⟨h.1, ?_⟩
  rcases h.2 with h | ⟨g, cap, cur, h1, h2, h3, h4⟩
  · exact Or.inl h
  · exact Or.inr ⟨g, cap, cur, h1, h2, (Below.heap_alloc _ _ _ (hlt h3)).trans h3, h4⟩
theorem WaysAt.alloc {B : Nat} {w : World} {r vb : Nat} {vcode vopen : Value} {N : Nat} {f : Nat → Option Nat} {o : List Nat} (h : WaysAt B w r vb vcode vopen N f o) (ob : Obj) : WaysAt B (w.alloc ob) r vb vcode vopen N f o := h.keep ((Below.refl _ _).alloc (Nat.le_refl _) _)
theorem hnew (w : World) (o : Obj) : (w.alloc o).heap[w.heap.size]? = some o := by
  show (w.heap.push o)[w.heap.size]? = _
  simp

theorem news_at {W : World} {H : Nat} (hH : W.heap.size = H) (cs : Array Value) (t : TypeId) : ∀ j u, cs.toList[j]? = some u → (W.alloc (.cells cs t)).cell? ((⟨H, 0, none⟩ : Addr).add j) = some u :=
  World.news_of_block (B := H) (by rw [← hH]; exact hnew _ _)
theorem one_ints (n : Int) : ∀ u ∈ [Value.int .i64 n], u.oneCell' = true := fun u hu => by simp at hu; subst hu; rfl

set_option maxRecDepth 100000 in
set_option maxHeartbeats 4000000 in
theorem come_any {B : Nat} {w : World} {r vb : Nat} {vcode vopen : Value} {N : Nat} {f : Nat → Option Nat} {o : List Nat} (h : WaysAt B w r vb vcode vopen N f o) (hB : B ≤ w.heap.size) {g0 : Option Addr} {cap0 : Nat} (hcode : vcode = .slice g0 N cap0) (_hN : N ≤ 5000) (hol : o.length ≤ 5000) (p n : Nat) (hp : p ≤ 5000) (hn : n ≤ 1000) :
    Calls Tryd.prog 43 #[.pointer (some ⟨r, 0, none⟩), .int .i64 p, .int .i64 n] w fun e w' => ComePost B w r vb vcode N f o p n e w' := by
  subst hcode
  obtain ⟨t1, b1⟩ := h.blk
  obtain ⟨t2, b2⟩ := h.vals
  have c0 : w.cell? ⟨r, 0, none⟩ = some (.slice g0 N cap0) := hcell b1 0
  have c1 : w.cell? ⟨r, 1, none⟩ = some (.slice (some ⟨vb, 0, none⟩) N N) := hcell b1 1
  have c2 : w.cell? ⟨r, 2, none⟩ = some vopen := hcell b1 2
  by_cases h1 : N ≤ p ∨ 200 < n
  · have HC : Hid (comeP N f p n = none) := by
      show comeP N f p n = none
      unfold comeP; rw [if_pos h1]
    clear h b1 b2
    by_cases h2 : N ≤ p
    · have d1 : decide ((N : Int) ≤ (p : Int)) = true := by simp; omega
      clear h1
      go_enter Tryd.func43, Tryd.ntmps43
      go_wp2_with fail
      go_ret
      exact ⟨Below.refl _ _, Or.inl ⟨unhide HC, rfl⟩⟩
    · have d1 : decide ((N : Int) ≤ (p : Int)) = false := by simp; omega
      have d2 : decide ((200 : Int) < (n : Int)) = true := by simp; omega
      clear h1
      go_enter Tryd.func43, Tryd.ntmps43
      go_wp2_with fail
      go_ret
      exact ⟨Below.refl _ _, Or.inl ⟨unhide HC, rfl⟩⟩
  · have hpN : p < N := by omega
    have d1 : decide ((N : Int) ≤ (p : Int)) = false := by simp; omega
    have d2 : decide ((200 : Int) < (n : Int)) = false := by simp; omega
    have cp : w.cell? ⟨vb, p, none⟩ = some (.int .i64 (noted f p)) := (hcell b2 p).trans (notedCells_get hpN)
    have fp : w.frozen? ⟨vb, p, none⟩ = false := hfroz b2 p
    have hp0 : (0 : Int) ≤ (p : Int) := by omega
    have hp1 : (p : Int) < (N : Int) := by omega
    cases hf : f p with
    | some k =>
      rw [noted_some hf] at cp
      have b3 : ((k : Int) != -1) = true := by rw [bne_iff_ne]; omega
      have HC : Hid (comeP N f p n = if k = n then some (f, false) else none) := by
        show comeP N f p n = _
        unfold comeP; rw [if_neg h1, hf]
      clear h b1 b2 h1 hf
      go_enter Tryd.func43, Tryd.ntmps43
      go_wp2_with fail
      go_ret
      refine ⟨Below.refl _ _, ?_⟩
      by_cases hk : k = n
      · exact Or.inr (Or.inl ⟨by rw [unhide HC, if_pos hk], rb (by simp [hk]), rfl⟩)
      · exact Or.inl ⟨by rw [unhide HC, if_neg hk], rb (by simp; omega)⟩
    | none =>
      rw [noted_none hf] at cp
      have HC : Hid (comeP N f p n = some (upd f p n, true)) := by
        show comeP N f p n = _
        unfold comeP; rw [if_neg h1, hf]
      have HF := hide hf
      have HW := hide (h.note p n)
      have hsz : (w.setCell ⟨vb, p, none⟩ (.int .i64 n)).heap.size = w.heap.size := by simp [World.setCell]
      have HB2 := hide (show B ≤ (w.setCell ⟨vb, p, none⟩ (.int .i64 n)).heap.size by rw [hsz]; exact hB)
      have HVB := hide h.vb0
      have HR := hide h.r0
      obtain ⟨i0, hi, hz0, hz1, hz2⟩ := info_parts infoInt
      have s2 : ∀ v, (w.setCell ⟨vb, p, none⟩ v).cell? ⟨r, 2, none⟩ = some vopen := fun v => (World.cell?_of_block (hother v (Ne.symm h.ne))).trans c2
      have HO := hide (owns_alloc (unhide HW).opn (.cells #[.int .i64 p] 3))
      have HH := hide hsz
      clear h b1 b2 h1 hf hsz
      go_enter Tryd.func43, Tryd.ntmps43
      go_wp2_with (at_builtin; refine wpList_append_lies _ rfl _ _ _ rfl B 3 i0 (.int .i64 0) 1 8 Tryd.underlying27 hi hz0 hz1 hz2 rfl (by decide) _ o.length (o.map natV) rfl (unhide HO) ⟨w.heap.size, 0, none⟩ 1 1 [.int .i64 p] rfl rfl (news_at (unhide HH) _ _) ?c2 (by decide) ?c3 ?c4 ?c5 (w.heap.size + 1) ?c6 ?_)
      case c2 => exact one_ints _
      case c3 => unfold maxLen; omega
      case c4 => omega
      case c5 => have := unhide HB2; simp; omega
      case c6 => simp
      intro g cap w3 hown hgrow hat hlt
      obtain ⟨e2, f2, hw3, hb3⟩ := ((unhide HW).alloc (.cells #[.int .i64 p] 3)).push hown hgrow (by simpa using hat) (by have := unhide HB2; simp; omega)
      have HP := hide hw3
      have HB3 := hide hb3
      clear hown hgrow hat hlt hw3 hb3
      go_wp2_with fail
      go_ret
      refine ⟨?_, Or.inr (Or.inr ⟨unhide HC, unhide HF, rfl, _, unhide HP⟩)⟩
      exact (((Below.refl B w).setCell (p := ⟨vb, p, none⟩) (unhide HVB) _).alloc (unhide HB2) _).trans (unhide HB3)
end Go.Proofs.YtcbgcjkcfolcoaaDoor
