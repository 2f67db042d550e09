/-
  Memory that was added, and written into.
  A text is read.
  Programs are read, by the law's own function.
  The writer: signs and their strengths.
-/
import Derived.Test.YtndgajlidckcdaaGreatDoorB15
import Derived.Laws.ResultCell
namespace Go.Proofs.YtndgajlidckcdaaGreatDoor
open Go.RowKit

theorem Add.setNew {a w : World} (h : Add a w) (p : Addr) (hp : a.heap.size ≤ p.block) (v : Value) : Add a (w.setCell p v) :=
  ⟨h.os, h.tape, h.output, by simpa [World.setCell] using h.size, fun k hk => (Below.heap_setCell _ _ _ _ (by omega)).trans (h.block k hk)⟩
/-- The sign of a node of two parts. -/
def signOfP (kd : Nat) : (ByteArray × Nat × Nat) × Bool := match signRows.find? (fun s => s.2.1 == kd) with
  | some s => (s, true)
  | none => ((noText, 0, 0), false)
def hitK (kd k : Nat) : Bool := (sgn k).2.1 == kd
end Go.Proofs.YtndgajlidckcdaaGreatDoor

namespace Go.Proofs.YtndgajlidckcdaaGreatDoor
open Go.RowKit

/-- How Parse comes back. -/
def ParsePost (lo : Nat) (s : ByteArray) (e : Ending) (w' : World) : Prop := ∃ vn ve, e = .returned (.tuple #[vn, ve]) ∧
  ((3000 < s.size ∧ vn = .pointer none ∧ ve = .iface 23 (.int .i64 4)) ∨
   (s.size ≤ 3000 ∧ ∃ f, readP s (jval (lo + 2) 1) = .inl f ∧ vn = .pointer none ∧ ∃ a, ve = .iface 122 (.pointer (some ⟨a, 0, none⟩)) ∧ lo ≤ a ∧ w'.heap[a]? = some (.cells #[.int .i64 f.1, .int .i64 f.2] 123 (0, 0))) ∨
   (s.size ≤ 3000 ∧ ∃ t S, readP s (jval (lo + 2) 1) = .inr (t, S) ∧ 1200 < wrap64 (t.many : Int) ∧ vn = .pointer none ∧ ve = .iface 23 (.int .i64 4)) ∨
   (s.size ≤ 3000 ∧ ∃ t S, readP s (jval (lo + 2) 1) = .inr (t, S) ∧ wrap64 (t.many : Int) ≤ 1200 ∧ vNode lo t vn w' ∧ ve = .nilIface))

theorem low_top (r : Nat) : LowC r 0 (lower 26) := by
  have h := low_any r 25 (Nat.le_refl _)
  rw [show (25 - 25 : Nat) = 0 from rfl, show (25 + 1 : Nat) = 26 from rfl] at h
  exact h
theorem Tabs.up {w : World} {r r' : Nat} (h : Tabs w r) (hr : r ≤ r') : Tabs w r' := ⟨h.words, h.twins, h.signs, h.range, Nat.lt_of_lt_of_le h.far hr⟩

theorem ext_add {w w' : World} (h : Ext w.heap.size w w') : Add w w' := ⟨h.os, h.tape, h.output, h.size, fun k hk => h.block k hk (by omega)⟩
theorem ext_add2 {w w3 w4 : World} {r : Nat} (h : Add w w3) (hx : Ext r w3 w4) (hr : w.heap.size ≤ r) : Add w w4 :=
  ⟨hx.os.trans h.os, hx.tape.trans h.tape, hx.output.trans h.output, Nat.le_trans h.size hx.size, fun k hk => (hx.block k (Nat.lt_of_lt_of_le hk h.size) (by omega)).trans (h.block k hk)⟩
theorem newP_inl {s : ByteArray} {r : Nat} {f : Int × Nat} (h : newP s r = .inl f) : readP s (jval r 1) = .inl f := by
  unfold newP at h
  unfold readP
  cases ha : advP (firstS s (jval r 1)) with
  | inl f' => rw [ha] at h; cases h; rfl
  | inr S => rw [ha] at h; cases h
theorem newP_inr {s : ByteArray} {r : Nat} {a : Unit} {S : LS} (h : newP s r = .inr (a, S)) (hs : s.size ≤ 3000) : readP s (jval r 1) = programP (lower 26) S ∧ S.dp = 0 := by
  unfold newP at h
  unfold readP
  cases ha : advP (firstS s (jval r 1)) with
  | inl f' => rw [ha] at h; cases h
  | inr T =>
    rw [ha] at h
    cases h
    exact ⟨rfl, (advP_ok ⟨hs, Nat.zero_le _, Nat.le_refl _⟩ ha).2.2.dp⟩
theorem set_two {w : World} {b : Nat} {v1 v2 : Value} {t1 t2 : TypeId} (hb1 : w.heap[b]? = some (.cells #[v1] t1 (0, 0))) (hb2 : w.heap[b + 1]? = some (.cells #[v2] t2 (0, 0))) (u1 u2 : Value) :
    ((w.setCell ⟨b, 0, none⟩ u1).setCell ⟨b + 1, 0, none⟩ u2).cell? ⟨b, 0, none⟩ = some u1 ∧ ((w.setCell ⟨b, 0, none⟩ u1).setCell ⟨b + 1, 0, none⟩ u2).cell? ⟨b + 1, 0, none⟩ = some u2 := by
  have k1 := hset (i := 0) hb1 u1
  have k2 : (w.setCell ⟨b, 0, none⟩ u1).heap[b + 1]? = some (.cells #[v2] t2 (0, 0)) := (hother u1 (by omega)).trans hb2
  exact ⟨hcell ((hother u2 (by omega)).trans k1) 0, hcell (hset (i := 0) k2 u2) 0⟩

set_option maxRecDepth 100000 in
set_option maxHeartbeats 4000000 in
theorem parse_long {w : World} (s : ByteArray) (hs : 3000 < s.size) (hmax : s.size ≤ 9223372036854775807) :
    Calls Tryz.prog 8 #[.string s] w fun e w' => ParsePost w.heap.size s e w' ∧ Add w w' := by
  have b0 : decide ((3000 : Int) < (s.size : Int)) = true := by simp; omega
  go_enter_defers Tryz.func8, Tryz.ntmps8
  go_wp2_with fail
  refine ⟨.tuple #[.pointer none, .iface 23 (.int .i64 4)], ?_, ⟨_, _, rfl, Or.inl ⟨hs, rfl, rfl⟩⟩, ((Add.refl w).alloc _).alloc _⟩
  simp [results, Tryz.results8, go_sem]

set_option maxRecDepth 100000 in
set_option maxHeartbeats 8000000 in
theorem parse_short {w : World} (tabs : Tabs w w.heap.size) (s : ByteArray) (hs : s.size ≤ 3000) :
    Calls Tryz.prog 8 #[.string s] w fun e w' => ParsePost w.heap.size s e w' ∧ Add w w' := by
  have hmf : ∀ (fn : Fn) (first cap : Array Value) (w : World), (Instr.makeFunc fn first cap).run Tryz.prog w = .ok (.func fn first cap) w := fun _ _ _ _ => rfl
  have b0 : decide ((3000 : Int) < (s.size : Int)) = false := by simp; omega
  have HT := hide tabs
  clear tabs
  go_enter_defers Tryz.func8, Tryz.ntmps8
  go_wp2_with fail
  have hz2 : ((w.alloc (.cells #[.pointer none] 22)).alloc (.cells #[.nilIface] 29)).heap.size = w.heap.size + 2 := by simp
  have ha2 : Add w ((w.alloc (.cells #[.pointer none] 22)).alloc (.cells #[.nilIface] 29)) := ((Add.refl w).alloc _).alloc _
  have hb1 : ((w.alloc (.cells #[.pointer none] 22)).alloc (.cells #[.nilIface] 29)).heap[w.heap.size]? = some (.cells #[.pointer none] 22 (0, 0)) := by rw [hold _ _ (by simp), hnew]
  have hb2 : ((w.alloc (.cells #[.pointer none] 22)).alloc (.cells #[.nilIface] 29)).heap[w.heap.size + 1]? = some (.cells #[.nilIface] 29 (0, 0)) := hnewAt _ _ (by simp)
  generalize ((w.alloc (.cells #[.pointer none] 22)).alloc (.cells #[.nilIface] 29)) = w2 at *
  have HT2 : Hid (Tabs w2 w2.heap.size) := ((unhide HT).keep fun j _ hl => ha2.block j hl).up (by omega)
  refine Ret.call (newReader_any (unhide HT2) s hs) ?_ ?_
  · intro f w3 hf hx
    have hrd := newP_inl hf
    rw [hz2] at hrd
    have ha3 := ha2.trans (ext_add hx)
    have k1 := (hx.block w.heap.size (by omega) (by omega)).trans hb1
    have k2 := (hx.block (w.heap.size + 1) (by omega) (by omega)).trans hb2
    refine leaves_cons (f := 41) (args := #[.pointer (some ⟨w.heap.size, 0, none⟩), .pointer (some ⟨w.heap.size + 1, 0, none⟩)]) (by simp) (by simp [go_sem]) ?_
    refine (catch_panicking w.heap.size f.1 f.2 [] _ k1 k2).mono ?_
    rintro e u' w4 ⟨rfl, rfl, hw4⟩
    have hsz3 := ha3.size
    have q1 : ((w3.alloc (.cells #[.int .i64 f.1, .int .i64 f.2] 120)).alloc (.cells #[.int .i64 f.1, .int .i64 f.2] 123)).heap[w.heap.size]? = some (.cells #[.pointer none] 22 (0, 0)) := by rw [hold _ _ (by simp; omega), hold _ _ (Array.getElem?_eq_some_iff.1 k1).1, k1]
    have q2 : ((w3.alloc (.cells #[.int .i64 f.1, .int .i64 f.2] 120)).alloc (.cells #[.int .i64 f.1, .int .i64 f.2] 123)).heap[w.heap.size + 1]? = some (.cells #[.nilIface] 29 (0, 0)) := by rw [hold _ _ (by have := (Array.getElem?_eq_some_iff.1 k2).1; simp; omega), hold _ _ (Array.getElem?_eq_some_iff.1 k2).1, k2]
    have q3 : ((w3.alloc (.cells #[.int .i64 f.1, .int .i64 f.2] 120)).alloc (.cells #[.int .i64 f.1, .int .i64 f.2] 123)).heap[w3.heap.size + 1]? = some (.cells #[.int .i64 f.1, .int .i64 f.2] 123 (0, 0)) := hnewAt _ _ (by simp)
    have q4 := set_two q1 q2 (.pointer none) (.iface 122 (.pointer (some ⟨w3.heap.size + 1, 0, none⟩)))
    rw [← hw4] at q4
    have hl3 := (Array.getElem?_eq_some_iff.1 k2).1
    refine ⟨.tuple #[.pointer none, .iface 122 (.pointer (some ⟨w3.heap.size + 1, 0, none⟩))], ?_, ⟨_, _, rfl, Or.inr (Or.inl ⟨hs, f, hrd, rfl, w3.heap.size + 1, rfl, by omega, ?_⟩)⟩, ?_⟩
    · simp [results, Tryz.results8, go_sem, q4.1, q4.2]
    · rw [hw4, hother _ (by omega), hother _ (by omega), q3]
    · rw [hw4]
      exact (((ha3.alloc _).alloc _).setNew ⟨w.heap.size, 0, none⟩ (Nat.le_refl _) _).setNew ⟨w.heap.size + 1, 0, none⟩ (by show w.heap.size ≤ w.heap.size + 1; omega) _
  intro a S1 v w3 hf hv cx3 hx
  obtain rfl : v = .pointer (some ⟨w2.heap.size, 0, none⟩) := hv
  have hrd := newP_inr hf hs
  rw [hz2] at hrd
  have ha3 := ha2.trans (ext_add hx)
  have k1 := (hx.block w.heap.size (by omega) (by omega)).trans hb1
  have k2 := (hx.block (w.heap.size + 1) (by omega) (by omega)).trans hb2
  have hlow : LowC w2.heap.size 0 (lower 26) := low_top w2.heap.size
  have hr1 := hrd.1
  generalize lower 26 = L at hlow hr1
  have HRD := hide hr1
  have HLOW := hide hlow
  have hd3 := hrd.2
  have HA3 := hide ha3
  have HK1 := hide k1
  have HK2 := hide k2
  have HC3 := hide cx3
  have HZ2 := hide hz2
  clear hz2 hf cx3 hx hrd hr1 hlow ha3 k1 k2 hb1 hb2 ha2 HT2 HT
  have hw23 : w2.heap.size < w3.heap.size := (unhide HC3).rd.lt
  go_wp2_with fail
  have hh := program_any (unhide HC3) hd3 (unhide HLOW)
  refine Ret.call hh ?_ ?_
  · intro f w3' hf hx
    have hz2 := unhide HZ2
    have hrd := (unhide HRD).trans hf
    have hz3 := (unhide HA3).size
    have k1 := (hx.block w.heap.size (Array.getElem?_eq_some_iff.1 (unhide HK1)).1 (by omega)).trans (unhide HK1)
    have k2 := (hx.block (w.heap.size + 1) (Array.getElem?_eq_some_iff.1 (unhide HK2)).1 (by omega)).trans (unhide HK2)
    have ha3 := ext_add2 (unhide HA3) hx (by omega)
    clear HA3 HK1 HK2 HC3 hz3 hx hf
    refine leaves_cons (f := 41) (args := #[.pointer (some ⟨w.heap.size, 0, none⟩), .pointer (some ⟨w.heap.size + 1, 0, none⟩)]) (by simp) (by simp [go_sem]) ?_
    refine (catch_panicking w.heap.size f.1 f.2 [] _ k1 k2).mono ?_
    rintro e u' w4 ⟨rfl, rfl, hw4⟩
    have hsz3 := ha3.size
    have q1 : ((w3'.alloc (.cells #[.int .i64 f.1, .int .i64 f.2] 120)).alloc (.cells #[.int .i64 f.1, .int .i64 f.2] 123)).heap[w.heap.size]? = some (.cells #[.pointer none] 22 (0, 0)) := by rw [hold _ _ (by simp; omega), hold _ _ (Array.getElem?_eq_some_iff.1 k1).1, k1]
    have q2 : ((w3'.alloc (.cells #[.int .i64 f.1, .int .i64 f.2] 120)).alloc (.cells #[.int .i64 f.1, .int .i64 f.2] 123)).heap[w.heap.size + 1]? = some (.cells #[.nilIface] 29 (0, 0)) := by rw [hold _ _ (by have := (Array.getElem?_eq_some_iff.1 k2).1; simp; omega), hold _ _ (Array.getElem?_eq_some_iff.1 k2).1, k2]
    have q3 : ((w3'.alloc (.cells #[.int .i64 f.1, .int .i64 f.2] 120)).alloc (.cells #[.int .i64 f.1, .int .i64 f.2] 123)).heap[w3'.heap.size + 1]? = some (.cells #[.int .i64 f.1, .int .i64 f.2] 123 (0, 0)) := hnewAt _ _ (by simp)
    have q4 := set_two q1 q2 (.pointer none) (.iface 122 (.pointer (some ⟨w3'.heap.size + 1, 0, none⟩)))
    rw [← hw4] at q4
    have hl3 := (Array.getElem?_eq_some_iff.1 k2).1
    refine ⟨.tuple #[.pointer none, .iface 122 (.pointer (some ⟨w3'.heap.size + 1, 0, none⟩))], ?_, ⟨_, _, rfl, Or.inr (Or.inl ⟨hs, f, hrd, rfl, w3'.heap.size + 1, rfl, by omega, ?_⟩)⟩, ?_⟩
    · simp [results, Tryz.results8, go_sem, q4.1, q4.2]
    · rw [hw4, hother _ (by omega), hother _ (by omega), q3]
    · rw [hw4]
      exact (((ha3.alloc _).alloc _).setNew ⟨w.heap.size, 0, none⟩ (Nat.le_refl _) _).setNew ⟨w.heap.size + 1, 0, none⟩ (by show w.heap.size ≤ w.heap.size + 1; omega) _
  intro t S2 v w4 hf hv cx4 hx
  obtain ⟨kb, rfl⟩ := vNode_ptr hv
  have hz2 := unhide HZ2
  have hz3 := (unhide HA3).size
  have k1 := (hx.block w.heap.size (Array.getElem?_eq_some_iff.1 (unhide HK1)).1 (by omega)).trans (unhide HK1)
  have k2 := (hx.block (w.heap.size + 1) (Array.getElem?_eq_some_iff.1 (unhide HK2)).1 (by omega)).trans (unhide HK2)
  have ha4 := ext_add2 (unhide HA3) hx (by omega)
  have HRD4 := hide ((unhide HRD).trans hf)
  have hn4 : NodeAt (fun j => w3.heap.size ≤ j) w4 (.pointer (some ⟨kb, 0, none⟩)) t := hv
  have hn5 : NodeAt (fun j => w3.heap.size ≤ j) (w4.setCell ⟨w.heap.size, 0, none⟩ (.pointer (some ⟨kb, 0, none⟩))) (.pointer (some ⟨kb, 0, none⟩)) t := hn4.keep (fun _ h => h) (fun j hj _ => hother _ (by omega)) _ _
  obtain ⟨K, hK⟩ : ∃ K : Int, K = wrap64 (t.many : Int) := ⟨_, rfl⟩
  have hm := many_any t _ hn5
  rw [← hK] at hm
  have HM := hide hm
  have HN5 := hide hn5
  have HA4 := hide ha4
  have HK := hide hK
  have HB2 := hide k2
  have c1 : w4.cell? ⟨w.heap.size, 0, none⟩ = some (.pointer none) := hcell k1 0
  have f1 := hfroz k1 0
  have HB1 := hide k1
  clear hz2 hm hn4 hn5 hv hf hx ha4 hK k2 HRD HA3 HK1 HK2 HC3 HLOW cx4 k1
  go_wp2_with fail
  refine (unhide HM).mono ?_
  rintro e wz ⟨rfl, hwz⟩
  have k1 := hset (i := 0) (unhide HB1) (.pointer (some ⟨kb, 0, none⟩))
  have k2 : (w4.setCell ⟨w.heap.size, 0, none⟩ (.pointer (some ⟨kb, 0, none⟩))).heap[w.heap.size + 1]? = some (.cells #[.nilIface] 29 (0, 0)) := (hother _ (by omega)).trans (unhide HB2)
  have HA5 := hide ((unhide HA4).setNew ⟨w.heap.size, 0, none⟩ (Nat.le_refl _) (.pointer (some ⟨kb, 0, none⟩)))
  rw [← hwz] at k1 k2 HA5 HN5
  clear HM HA4 HB1 HB2 c1 f1 hwz
  have c1 : wz.cell? ⟨w.heap.size, 0, none⟩ = some (.pointer (some ⟨kb, 0, none⟩)) := hcell k1 0
  have c2 : wz.cell? ⟨w.heap.size + 1, 0, none⟩ = some .nilIface := hcell k2 0
  have f1 := hfroz k1 0
  have f2 := hfroz k2 0
  have HB1 := hide k1
  have HB2 := hide k2
  clear k1 k2
  have HN6 : Hid (NodeAt (fun j => w.heap.size + 2 ≤ j) wz (.pointer (some ⟨kb, 0, none⟩)) t) := NodeAt.mono (unhide HN5) fun j hj => by have := unhide HZ2; omega
  clear HN5
  by_cases hbig : 1200 < K
  · have b1 : decide ((1200 : Int) < K) = true := by simp [hbig]
    go_wp2_with fail
    refine leaves_cons (f := 41) (args := #[.pointer (some ⟨w.heap.size, 0, none⟩), .pointer (some ⟨w.heap.size + 1, 0, none⟩)]) (by simp) (by simp [go_sem]) ?_
    refine (catch_idle ⟨w.heap.size, 0, none⟩ ⟨w.heap.size + 1, 0, none⟩ _).mono ?_
    rintro e u' w6 ⟨rfl, rfl, hw6⟩
    have q4 := set_two (unhide HB1) (unhide HB2) (.pointer none) (.iface 23 (.int .i64 4))
    rw [← hw6] at q4
    refine ⟨.tuple #[.pointer none, .iface 23 (.int .i64 4)], ?_, ⟨_, _, rfl, Or.inr (Or.inr (Or.inl ⟨hs, t, S2, unhide HRD4, by rw [← unhide HK]; exact hbig, rfl, rfl⟩))⟩, ?_⟩
    · simp [results, Tryz.results8, go_sem, q4.1, q4.2]
    · rw [hw6]
      exact ((unhide HA5).setNew ⟨w.heap.size, 0, none⟩ (Nat.le_refl _) _).setNew ⟨w.heap.size + 1, 0, none⟩ (by show w.heap.size ≤ w.heap.size + 1; omega) _
  · have b1 : decide ((1200 : Int) < K) = false := by simp; omega
    go_wp2_with fail
    refine leaves_cons (f := 41) (args := #[.pointer (some ⟨w.heap.size, 0, none⟩), .pointer (some ⟨w.heap.size + 1, 0, none⟩)]) (by simp) (by simp [go_sem]) ?_
    refine (catch_idle ⟨w.heap.size, 0, none⟩ ⟨w.heap.size + 1, 0, none⟩ _).mono ?_
    rintro e u' w6 ⟨rfl, rfl, hw6⟩
    have q4 := set_two (unhide HB1) (unhide HB2) (.pointer (some ⟨kb, 0, none⟩)) .nilIface
    rw [← hw6] at q4
    refine ⟨.tuple #[.pointer (some ⟨kb, 0, none⟩), .nilIface], ?_, ⟨_, _, rfl, Or.inr (Or.inr (Or.inr ⟨hs, t, S2, unhide HRD4, by rw [← unhide HK]; omega, ?_, rfl⟩))⟩, ?_⟩
    · simp [results, Tryz.results8, go_sem, q4.1, q4.2]
    · show NodeAt _ _ _ _
      rw [hw6]
      exact (unhide HN6).keep (fun j hj => by omega) (fun j hj _ => (hother _ (by omega)).trans (hother _ (by omega))) _ _
    · rw [hw6]
      exact ((unhide HA5).setNew ⟨w.heap.size, 0, none⟩ (Nat.le_refl _) _).setNew ⟨w.heap.size + 1, 0, none⟩ (by show w.heap.size ≤ w.heap.size + 1; omega) _
end Go.Proofs.YtndgajlidckcdaaGreatDoor

namespace Go.Proofs.YtndgajlidckcdaaGreatDoor
open Go.RowKit

/-- The program that a text tells, if it does. -/
def parseT (s : ByteArray) (v : Value) : Option Tree := if 3000 < s.size then none else match readP s v with
  | .inl _ => none
  | .inr x => if 1200 < wrap64 (x.1.many : Int) then none else some x.1

theorem readP_kind {s : ByteArray} {v : Value} {t : Tree} {S : LS} (h : readP s v = .inr (t, S)) : t.kind = 1 := by
  unfold readP at h
  split at h
  · cases h
  · obtain ⟨ks, S1, _, h2⟩ := bnd_some h
    cases h2
    rfl
theorem parseT_kind {s : ByteArray} {v : Value} {t : Tree} (h : parseT s v = some t) : t.kind = 1 := by
  unfold parseT at h
  split at h
  · cases h
  · split at h
    · cases h
    · rename_i x hx
      split at h
      · cases h
      · cases h
        exact readP_kind (S := x.2) hx
theorem parseT_size {s : ByteArray} {v : Value} {t : Tree} (h : parseT s v = some t) : s.size ≤ 3000 := by
  unfold parseT at h
  split at h
  · cases h
  · omega

/-- How Parse comes back, in short. -/
def ParseIs (lo : Nat) (s : ByteArray) (vn ve : Value) (w' : World) : Prop :=
  (∃ t b, parseT s (jval (lo + 2) 1) = some t ∧ vn = .pointer (some ⟨b, 0, none⟩) ∧ NodeAt (fun j => lo ≤ j) w' (.pointer (some ⟨b, 0, none⟩)) t ∧ ve = .nilIface) ∨
  (parseT s (jval (lo + 2) 1) = none ∧ vn = .pointer none ∧ ∃ tt pp, ve = .iface tt pp)

theorem parse_any {w : World} (tabs : Tabs w w.heap.size) (s : ByteArray) (hmax : s.size ≤ 9223372036854775807) :
    Calls Tryz.prog 8 #[.string s] w fun e w' => (∃ vn ve, e = .returned (.tuple #[vn, ve]) ∧ ParseIs w.heap.size s vn ve w') ∧ Add w w' := by
  by_cases hs : 3000 < s.size
  · refine (parse_long s hs hmax).mono ?_
    rintro e w' ⟨⟨vn, ve, he, h⟩, ha⟩
    refine ⟨⟨vn, ve, he, Or.inr ⟨by rw [parseT, if_pos hs], ?_⟩⟩, ha⟩
    rcases h with ⟨_, h1, h2⟩ | ⟨h, _⟩ | ⟨h, _⟩ | ⟨h, _⟩
    · exact ⟨h1, _, _, h2⟩
    · omega
    · omega
    · omega
  · refine (parse_short tabs s (by omega)).mono ?_
    rintro e w' ⟨⟨vn, ve, he, h⟩, ha⟩
    refine ⟨⟨vn, ve, he, ?_⟩, ha⟩
    rcases h with ⟨h, _⟩ | ⟨_, f, h1, h2, a, h3, _⟩ | ⟨_, t, S, h1, h2, h3, h4⟩ | ⟨_, t, S, h1, h2, h3, h4⟩
    · omega
    · exact Or.inr ⟨by rw [parseT, if_neg hs, h1], h2, _, _, h3⟩
    · exact Or.inr ⟨by rw [parseT, if_neg hs, h1]; exact if_pos h2, h3, _, _, h4⟩
    · obtain ⟨b, rfl⟩ := vNode_ptr h3
      exact Or.inl ⟨t, b, by rw [parseT, if_neg hs, h1]; exact if_neg (by show ¬ 1200 < wrap64 (t.many : Int); omega), rfl, h3, h4⟩

theorem NodeAt.drewN {A : Nat → Prop} {w : World} {v : Value} {t : Tree} (h : NodeAt A w v t) (n : Nat) : NodeAt A (w.drewN n) v t := NodeAt.keep (w := w) (w' := w.drewN n) (fun _ h => h) (fun _ _ _ => rfl) _ _ h

/-- How 'read' comes back. -/
def ReadIs (lo : Nat) (s : ByteArray) (e : Ending) (w' : World) : Prop :=
  (∃ t b, parseT s (jval (lo + 2) 1) = some t ∧ e = .returned (.tuple #[.pointer (some ⟨b, 0, none⟩), .bool true]) ∧ NodeAt (fun j => lo ≤ j) w' (.pointer (some ⟨b, 0, none⟩)) t) ∨
  (parseT s (jval (lo + 2) 1) = none ∧ e = .returned (.tuple #[.pointer none, .bool false]))

set_option maxRecDepth 100000 in
set_option maxHeartbeats 4000000 in
theorem read_any {w : World} (tabs : Tabs w w.heap.size) (s : ByteArray) (hmax : s.size ≤ 9223372036854775807) :
    Calls Tryz.prog 15 #[.string s] w fun e w' => ReadIs w.heap.size s e w' ∧ Add w w' := by
  have hn0 : ∀ w : World, (binOp BinOp.eql 29 .nilIface .nilIface).run Tryz.prog w = .ok (.bool true) w := fun _ => by kernel_rfl
  have HT := hide tabs
  clear tabs
  go_enter Tryz.func15, Tryz.ntmps15
  go_wp2_with fail
  refine (parse_any (unhide HT) s hmax).mono ?_
  rintro e w1 ⟨⟨vn, ve, rfl, h⟩, ha⟩
  rcases h with ⟨t, b, h1, rfl, h3, rfl⟩ | ⟨h1, rfl, tt, pp, rfl⟩
  · have c0 : w1.cell? ⟨b, 0, none⟩ = some (.int .i64 1) := by
      have := h3.knd
      rw [parseT_kind h1] at this
      exact this
    have H1 := hide h1
    have H3 := hide h3
    have HA := hide ha
    clear h1 h3 ha
    go_wp2_with fail
    go_quiet (fail)
    go_wp2_with fail
    go_ret2
    exact ⟨Or.inl ⟨t, b, unhide H1, rfl, (unhide H3).drewN _⟩, (unhide HA).drewN _⟩
  · have hn1 : ∀ w : World, (binOp BinOp.eql 29 (.iface tt pp) .nilIface).run Tryz.prog w = .ok (.bool false) w := fun _ => by kernel_rfl
    have H1 := hide h1
    have HA := hide ha
    clear h1 ha
    go_wp2_with fail
    go_quiet (fail)
    go_wp2_with fail
    go_ret2
    exact ⟨Or.inr ⟨unhide H1, rfl⟩, (unhide HA).drewN _⟩
end Go.Proofs.YtndgajlidckcdaaGreatDoor

namespace Go.Proofs.YtndgajlidckcdaaGreatDoor
open Go.RowKit

theorem signOf_hit {kd k : Nat} (hk : k < 9) (h : hitK kd k = true) (hn : ∀ j, j < k → hitK kd j = false) : signOfP kd = (sgn k, true) := by
  have hf : signRows.find? (fun s => s.2.1 == kd) = some (sgn k) := by
    rw [List.find?_eq_some_iff_getElem]
    refine ⟨h, k, hk, sgn_get hk, fun j hj => ?_⟩
    rw [sgn_get (Nat.lt_trans hj hk)]
    have := hn j hj
    unfold hitK at this
    rw [this]
    rfl
  unfold signOfP
  rw [hf]
theorem signOf_none {kd : Nat} (hn : ∀ j, j < 9 → hitK kd j = false) : signOfP kd = ((noText, 0, 0), false) := by
  have hf : signRows.find? (fun s => s.2.1 == kd) = none := by
    rw [List.find?_eq_none]
    intro x hx
    obtain ⟨i, hi, rfl⟩ := List.getElem_of_mem hx
    rw [sgn_get hi]
    have := hn i hi
    unfold hitK at this
    rw [this]
    decide
  unfold signOfP
  rw [hf]

set_option maxRecDepth 100000 in
theorem sign_results {w : World} {tmps : Array Value} {g : Nat} {t : TypeId} {a b c : Value} {v : Bool} (hp : tmps.getD 2 undef = .pointer (some ⟨g, 0, none⟩)) (hv : tmps.getD 3 undef = .bool v) (hg : w.heap[g]? = some (.cells #[a, b, c] t (0, 0))) :
    (results Tryz.f246 tmps).run Tryz.prog w = .ok (.tuple #[.agg #[a, b, c], .bool v]) w := by
  rw [results_cell_tmp Tryz.results246, hp, hv]
  show ((loadVar 224 ⟨g, 0, none⟩).run Tryz.prog w).andThen _ = _
  rw [run_loadVar_row w g t 224 #[a, b, c] (0, 0) _ hg Tryz.underlying224 rfl (by kernel_rfl)]
  rfl

def signV (z : (ByteArray × Nat × Nat) × Bool) : Value := .tuple #[.agg #[.string z.1.1, .int .i64 z.1.2.1, .int .i64 z.1.2.2], .bool z.2]

set_option maxRecDepth 100000 in
set_option maxHeartbeats 4000000 in
theorem signOf_any {w : World} {tt : TypeId} {fr : Nat × Nat} (hg : w.heap[5]? = some (.cells signCells tt fr)) (kd : Nat) :
    Calls Tryz.prog 246 #[.int .i64 kd] w fun e w' => e = .returned (signV (signOfP kd)) ∧ Add w w' := by
  have hsz : (Tryz.prog.info? 225).map (·.size) = some signCells.size := by kernel_rfl
  have hg2 : ∀ o, (w.alloc o).heap[5]? = some (.cells signCells tt fr) := fun o => (hold _ _ (Array.getElem?_eq_some_iff.1 hg).1).trans hg
  have hidx : ∀ (k : Nat), k < 9 → ∀ w1 : World, (Instr.index 225 (.agg signCells) (.int .i64 k)).run Tryz.prog w1 = .ok (.agg #[.string (sgn k).1, .int .i64 (sgn k).2.1, .int .i64 (sgn k).2.2]) w1 := by
    intro k hk w1
    rcases (by omega : k = 0 ∨ k = 1 ∨ k = 2 ∨ k = 3 ∨ k = 4 ∨ k = 5 ∨ k = 6 ∨ k = 7 ∨ k = 8) with rfl | rfl | rfl | rfl | rfl | rfl | rfl | rfl | rfl <;> kernel_rfl
  clear hg
  go_enter Tryz.func246, Tryz.ntmps246
  go_wp2_with (refine wpList_load_row rfl 225 _ rfl 5 rfl tt _ fr _ (hg2 _) Tryz.underlying225 rfl hsz ?_)
  clear hsz hg2
  go_loopg [7] 9 (fun g i wr => ∃ k : Nat, k ≤ 9 ∧ g = 9 - k ∧ i = .int .i64 k ∧ Hid (∀ j, j < k → hitK kd j = false) ∧ wr.heap[w.heap.size]? = some (.cells #[.string ⟨#[]⟩, .int .i64 0, .int .i64 0] 224 (0, 0)) ∧ Hid (Add w wr))
  case atStart => exact ⟨0, by omega, rfl, rfl, fun j hj => by omega, hnew _ _, (Add.refl _).alloc _⟩
  case round =>
    obtain ⟨k, hk, rfl, rfl, HN, hb, HA⟩ := hrel
    have hbl : w.heap.size < wr.heap.size := (Array.getElem?_eq_some_iff.1 hb).1
    by_cases hk9 : k < 9
    · have hi := hidx k hk9
      have HJ := hide (fun h => signOf_hit (kd := kd) hk9 h (unhide HN))
      have HH := hide (show hitK kd k = ((sgn k).2.1 == kd) from rfl)
      clear hidx
      generalize sgn k = z at *
      obtain ⟨m, kk, st⟩ := z
      by_cases hst : kk = kd
      · subst hst
        have d0 : wr.cell? ⟨w.heap.size, 0, none⟩ = some (.string ⟨#[]⟩) := hcell hb 0
        have d1 : wr.cell? ⟨w.heap.size, 1, none⟩ = some (.int .i64 0) := hcell hb 1
        have d2 : wr.cell? ⟨w.heap.size, 2, none⟩ = some (.int .i64 0) := hcell hb 2
        have f0 := hfroz hb 0
        have f1 := hfroz hb 1
        have f2 := hfroz hb 2
        have HB := hide hb
        clear hb
        go_wp2_with fail
        refine bodyPost_ret (sign_results rfl rfl ((hold _ _ (by simp; omega)).trans (hset (i := 2) (hset (i := 1) (hset (i := 0) (unhide HB) (.string m)) (.int .i64 kk)) (.int .i64 st)))) rfl ?_
        rw [unhide HJ (by rw [unhide HH]; simp)]
        have hle : w.heap.size ≤ w.heap.size := Nat.le_refl _
        exact ⟨rfl, ((((unhide HA).setNew ⟨w.heap.size, 0, none⟩ hle _).setNew ⟨w.heap.size, 1, none⟩ hle _).setNew ⟨w.heap.size, 2, none⟩ hle _).alloc _⟩
      · have b0 : ((kk : Int) == (kd : Int)) = false := by rw [beq_eq_false_iff_ne]; omega
        have b1 : (kk == kd) = false := by rw [beq_eq_false_iff_ne]; exact hst
        have HB := hide hb
        clear hb
        go_wp2_with fail
        go_roundg (9 - (k + 1))
        case measure => omega
        case rel => exact ⟨k + 1, by omega, rfl, by go_num, fun j hj => by
          by_cases e : j = k
          · subst e; rw [unhide HH]; exact b1
          · exact unhide HN j (by omega), (hold _ _ hbl).trans (unhide HB), (unhide HA).alloc _⟩
    · have hk9' : decide ((k : Int) < 9) = false := by simp; omega
      obtain rfl : k = 9 := by omega
      have HJ := hide (signOf_none (kd := kd) (unhide HN))
      have d0 : wr.cell? ⟨w.heap.size, 0, none⟩ = some (.string ⟨#[]⟩) := hcell hb 0
      have d1 : wr.cell? ⟨w.heap.size, 1, none⟩ = some (.int .i64 0) := hcell hb 1
      have d2 : wr.cell? ⟨w.heap.size, 2, none⟩ = some (.int .i64 0) := hcell hb 2
      have f0 := hfroz hb 0
      have f1 := hfroz hb 1
      have f2 := hfroz hb 2
      have HB := hide hb
      clear HN hidx hb
      go_wp2_with fail
      refine bodyPost_ret (sign_results rfl rfl (hset (i := 2) (hset (i := 1) (hset (i := 0) (unhide HB) (.string ⟨#[]⟩)) (.int .i64 0)) (.int .i64 0))) rfl ?_
      rw [unhide HJ]
      have hle : w.heap.size ≤ w.heap.size := Nat.le_refl _
      exact ⟨rfl, (((unhide HA).setNew ⟨w.heap.size, 0, none⟩ hle _).setNew ⟨w.heap.size, 1, none⟩ hle _).setNew ⟨w.heap.size, 2, none⟩ hle _⟩

/-- How strong a value is of itself. -/
def strengthP (kd : Nat) : Nat := if (signOfP kd).2 = true then (signOfP kd).1.2.2 else if kd = 40 ∨ kd = 41 then 7 else 8
end Go.Proofs.YtndgajlidckcdaaGreatDoor
