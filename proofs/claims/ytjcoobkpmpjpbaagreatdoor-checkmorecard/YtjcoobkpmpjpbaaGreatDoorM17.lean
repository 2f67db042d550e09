/-
  Memory that was added, and written into.
  A text is read.
  Programs that were read have the parts that their kinds ask for.
-/
import Derived.Test.YtjcoobkpmpjpbaaGreatDoorM16
import Derived.Laws.ResultCell
namespace Go.Proofs.YtjcoobkpmpjpbaaGreatDoor
open Go.RowKit

theorem Add.setNew {a w : World} (h : Add a w) (p : Addr) (hp : a.heap.size ≤ p.block) (v : Value) : Add a (w.setCell p v) :=
  ⟨h.os, h.tape, h.output, by simpa [World.setCell] using h.size, fun k hk => (Below.heap_setCell _ _ _ _ (by omega)).trans (h.block k hk)⟩
/-- The sign of a node of two parts. -/
def signOfP (kd : Nat) : (ByteArray × Nat × Nat) × Bool := match signRows.find? (fun s => s.2.1 == kd) with
  | some s => (s, true)
  | none => ((noText, 0, 0), false)
def hitK (kd k : Nat) : Bool := (sgn k).2.1 == kd
end Go.Proofs.YtjcoobkpmpjpbaaGreatDoor

namespace Go.Proofs.YtjcoobkpmpjpbaaGreatDoor
open Go.RowKit

/-- How Parse comes back. -/
def ParsePost (lo : Nat) (s : ByteArray) (e : Ending) (w' : World) : Prop := ∃ vn ve, e = .returned (.tuple #[vn, ve]) ∧
  ((3000 < s.size ∧ vn = .pointer none ∧ ve = .iface 34 (.int .i64 4)) ∨
   (s.size ≤ 3000 ∧ ∃ f, readP s (jval (lo + 2) 1) = .inl f ∧ vn = .pointer none ∧ ∃ a, ve = .iface 78 (.pointer (some ⟨a, 0, none⟩)) ∧ lo ≤ a ∧ w'.heap[a]? = some (.cells #[.int .i64 f.1, .int .i64 f.2] 80 (0, 0))) ∨
   (s.size ≤ 3000 ∧ ∃ t S, readP s (jval (lo + 2) 1) = .inr (t, S) ∧ 1200 < wrap64 (t.many : Int) ∧ vn = .pointer none ∧ ve = .iface 34 (.int .i64 4)) ∨
   (s.size ≤ 3000 ∧ ∃ t S, readP s (jval (lo + 2) 1) = .inr (t, S) ∧ wrap64 (t.many : Int) ≤ 1200 ∧ vNode lo t vn w' ∧ ve = .nilIface))

theorem low_top (r : Nat) : LowC r 0 (lower 26) := by
  have h := low_any r 25 (Nat.le_refl _)
  rw [show (25 - 25 : Nat) = 0 from rfl, show (25 + 1 : Nat) = 26 from rfl] at h
  exact h
theorem Tabs.up {w : World} {r r' : Nat} (h : Tabs w r) (hr : r ≤ r') : Tabs w r' := ⟨h.words, h.twins, h.signs, h.range, Nat.lt_of_lt_of_le h.far hr⟩

theorem ext_add {w w' : World} (h : Ext w.heap.size w w') : Add w w' := ⟨h.os, h.tape, h.output, h.size, fun k hk => h.block k hk (by omega)⟩
theorem ext_add2 {w w3 w4 : World} {r : Nat} (h : Add w w3) (hx : Ext r w3 w4) (hr : w.heap.size ≤ r) : Add w w4 :=
  ⟨hx.os.trans h.os, hx.tape.trans h.tape, hx.output.trans h.output, Nat.le_trans h.size hx.size, fun k hk => (hx.block k (Nat.lt_of_lt_of_le hk h.size) (by omega)).trans (h.block k hk)⟩
theorem newP_inl {s : ByteArray} {r : Nat} {f : Int × Nat} (h : newP s r = .inl f) : readP s (jval r 1) = .inl f := by
  unfold newP at h
  unfold readP
  cases ha : advP (firstS s (jval r 1)) with
  | inl f' => rw [ha] at h; cases h; rfl
  | inr S => rw [ha] at h; cases h
theorem newP_inr {s : ByteArray} {r : Nat} {a : Unit} {S : LS} (h : newP s r = .inr (a, S)) (hs : s.size ≤ 3000) : readP s (jval r 1) = programP (lower 26) S ∧ S.dp = 0 := by
  unfold newP at h
  unfold readP
  cases ha : advP (firstS s (jval r 1)) with
  | inl f' => rw [ha] at h; cases h
  | inr T =>
    rw [ha] at h
    cases h
    exact ⟨rfl, (advP_ok ⟨hs, Nat.zero_le _, Nat.le_refl _⟩ ha).2.2.dp⟩
theorem set_two {w : World} {b : Nat} {v1 v2 : Value} {t1 t2 : TypeId} (hb1 : w.heap[b]? = some (.cells #[v1] t1 (0, 0))) (hb2 : w.heap[b + 1]? = some (.cells #[v2] t2 (0, 0))) (u1 u2 : Value) :
    ((w.setCell ⟨b, 0, none⟩ u1).setCell ⟨b + 1, 0, none⟩ u2).cell? ⟨b, 0, none⟩ = some u1 ∧ ((w.setCell ⟨b, 0, none⟩ u1).setCell ⟨b + 1, 0, none⟩ u2).cell? ⟨b + 1, 0, none⟩ = some u2 := by
  have k1 := hset (i := 0) hb1 u1
  have k2 : (w.setCell ⟨b, 0, none⟩ u1).heap[b + 1]? = some (.cells #[v2] t2 (0, 0)) := (hother u1 (by omega)).trans hb2
  exact ⟨hcell ((hother u2 (by omega)).trans k1) 0, hcell (hset (i := 0) k2 u2) 0⟩

set_option maxRecDepth 100000 in
set_option maxHeartbeats 4000000 in
theorem parse_long {w : World} (s : ByteArray) (hs : 3000 < s.size) (hmax : s.size ≤ 9223372036854775807) :
    Calls Tryz.prog 9 #[.string s] w fun e w' => ParsePost w.heap.size s e w' ∧ Add w w' := by
  have b0 : decide ((3000 : Int) < (s.size : Int)) = true := by simp; omega
  go_enter_defers Tryz.func9, Tryz.ntmps9
  go_wp2_with fail
  refine ⟨.tuple #[.pointer none, .iface 34 (.int .i64 4)], ?_, ⟨_, _, rfl, Or.inl ⟨hs, rfl, rfl⟩⟩, ((Add.refl w).alloc _).alloc _⟩
  simp [results, Tryz.results9, go_sem]

set_option maxRecDepth 100000 in
set_option maxHeartbeats 8000000 in
theorem parse_short {w : World} (tabs : Tabs w w.heap.size) (s : ByteArray) (hs : s.size ≤ 3000) :
    Calls Tryz.prog 9 #[.string s] w fun e w' => ParsePost w.heap.size s e w' ∧ Add w w' := by
  have hmf : ∀ (fn : Fn) (first cap : Array Value) (w : World), (Instr.makeFunc fn first cap).run Tryz.prog w = .ok (.func fn first cap) w := fun _ _ _ _ => rfl
  have b0 : decide ((3000 : Int) < (s.size : Int)) = false := by simp; omega
  have HT := hide tabs
  clear tabs
  go_enter_defers Tryz.func9, Tryz.ntmps9
  go_wp2_with fail
  have hz2 : ((w.alloc (.cells #[.pointer none] 22)).alloc (.cells #[.nilIface] 28)).heap.size = w.heap.size + 2 := by simp
  have ha2 : Add w ((w.alloc (.cells #[.pointer none] 22)).alloc (.cells #[.nilIface] 28)) := ((Add.refl w).alloc _).alloc _
  have hb1 : ((w.alloc (.cells #[.pointer none] 22)).alloc (.cells #[.nilIface] 28)).heap[w.heap.size]? = some (.cells #[.pointer none] 22 (0, 0)) := by rw [hold _ _ (by simp), hnew]
  have hb2 : ((w.alloc (.cells #[.pointer none] 22)).alloc (.cells #[.nilIface] 28)).heap[w.heap.size + 1]? = some (.cells #[.nilIface] 28 (0, 0)) := hnewAt _ _ (by simp)
  generalize ((w.alloc (.cells #[.pointer none] 22)).alloc (.cells #[.nilIface] 28)) = w2 at *
  have HT2 : Hid (Tabs w2 w2.heap.size) := ((unhide HT).keep fun j _ hl => ha2.block j hl).up (by omega)
  refine Ret.call (newReader_any (unhide HT2) s hs) ?_ ?_
  · intro f w3 hf hx
    have hrd := newP_inl hf
    rw [hz2] at hrd
    have ha3 := ha2.trans (ext_add hx)
    have k1 := (hx.block w.heap.size (by omega) (by omega)).trans hb1
    have k2 := (hx.block (w.heap.size + 1) (by omega) (by omega)).trans hb2
    refine leaves_cons (f := 16) (args := #[.pointer (some ⟨w.heap.size, 0, none⟩), .pointer (some ⟨w.heap.size + 1, 0, none⟩)]) (by simp) (by simp [go_sem]) ?_
    refine (catch_panicking w.heap.size f.1 f.2 [] _ k1 k2).mono ?_
    rintro e u' w4 ⟨rfl, rfl, hw4⟩
    have hsz3 := ha3.size
    have q1 : ((w3.alloc (.cells #[.int .i64 f.1, .int .i64 f.2] 76)).alloc (.cells #[.int .i64 f.1, .int .i64 f.2] 80)).heap[w.heap.size]? = some (.cells #[.pointer none] 22 (0, 0)) := by rw [hold _ _ (by simp; omega), hold _ _ (Array.getElem?_eq_some_iff.1 k1).1, k1]
    have q2 : ((w3.alloc (.cells #[.int .i64 f.1, .int .i64 f.2] 76)).alloc (.cells #[.int .i64 f.1, .int .i64 f.2] 80)).heap[w.heap.size + 1]? = some (.cells #[.nilIface] 28 (0, 0)) := by rw [hold _ _ (by have := (Array.getElem?_eq_some_iff.1 k2).1; simp; omega), hold _ _ (Array.getElem?_eq_some_iff.1 k2).1, k2]
    have q3 : ((w3.alloc (.cells #[.int .i64 f.1, .int .i64 f.2] 76)).alloc (.cells #[.int .i64 f.1, .int .i64 f.2] 80)).heap[w3.heap.size + 1]? = some (.cells #[.int .i64 f.1, .int .i64 f.2] 80 (0, 0)) := hnewAt _ _ (by simp)
    have q4 := set_two q1 q2 (.pointer none) (.iface 78 (.pointer (some ⟨w3.heap.size + 1, 0, none⟩)))
    rw [← hw4] at q4
    have hl3 := (Array.getElem?_eq_some_iff.1 k2).1
    refine ⟨.tuple #[.pointer none, .iface 78 (.pointer (some ⟨w3.heap.size + 1, 0, none⟩))], ?_, ⟨_, _, rfl, Or.inr (Or.inl ⟨hs, f, hrd, rfl, w3.heap.size + 1, rfl, by omega, ?_⟩)⟩, ?_⟩
    · simp [results, Tryz.results9, go_sem, q4.1, q4.2]
    · rw [hw4, hother _ (by omega), hother _ (by omega), q3]
    · rw [hw4]
      exact (((ha3.alloc _).alloc _).setNew ⟨w.heap.size, 0, none⟩ (Nat.le_refl _) _).setNew ⟨w.heap.size + 1, 0, none⟩ (by show w.heap.size ≤ w.heap.size + 1; omega) _
  intro a S1 v w3 hf hv cx3 hx
  obtain rfl : v = .pointer (some ⟨w2.heap.size, 0, none⟩) := hv
  have hrd := newP_inr hf hs
  rw [hz2] at hrd
  have ha3 := ha2.trans (ext_add hx)
  have k1 := (hx.block w.heap.size (by omega) (by omega)).trans hb1
  have k2 := (hx.block (w.heap.size + 1) (by omega) (by omega)).trans hb2
  have hlow : LowC w2.heap.size 0 (lower 26) := low_top w2.heap.size
  have hr1 := hrd.1
  generalize lower 26 = L at hlow hr1
  have HRD := hide hr1
  have HLOW := hide hlow
  have hd3 := hrd.2
  have HA3 := hide ha3
  have HK1 := hide k1
  have HK2 := hide k2
  have HC3 := hide cx3
  have HZ2 := hide hz2
  clear hz2 hf cx3 hx hrd hr1 hlow ha3 k1 k2 hb1 hb2 ha2 HT2 HT
  have hw23 : w2.heap.size < w3.heap.size := (unhide HC3).rd.lt
  go_wp2_with fail
  have hh := program_any (unhide HC3) hd3 (unhide HLOW)
  refine Ret.call hh ?_ ?_
  · intro f w3' hf hx
    have hz2 := unhide HZ2
    have hrd := (unhide HRD).trans hf
    have hz3 := (unhide HA3).size
    have k1 := (hx.block w.heap.size (Array.getElem?_eq_some_iff.1 (unhide HK1)).1 (by omega)).trans (unhide HK1)
    have k2 := (hx.block (w.heap.size + 1) (Array.getElem?_eq_some_iff.1 (unhide HK2)).1 (by omega)).trans (unhide HK2)
    have ha3 := ext_add2 (unhide HA3) hx (by omega)
    clear HA3 HK1 HK2 HC3 hz3 hx hf
    refine leaves_cons (f := 16) (args := #[.pointer (some ⟨w.heap.size, 0, none⟩), .pointer (some ⟨w.heap.size + 1, 0, none⟩)]) (by simp) (by simp [go_sem]) ?_
    refine (catch_panicking w.heap.size f.1 f.2 [] _ k1 k2).mono ?_
    rintro e u' w4 ⟨rfl, rfl, hw4⟩
    have hsz3 := ha3.size
    have q1 : ((w3'.alloc (.cells #[.int .i64 f.1, .int .i64 f.2] 76)).alloc (.cells #[.int .i64 f.1, .int .i64 f.2] 80)).heap[w.heap.size]? = some (.cells #[.pointer none] 22 (0, 0)) := by rw [hold _ _ (by simp; omega), hold _ _ (Array.getElem?_eq_some_iff.1 k1).1, k1]
    have q2 : ((w3'.alloc (.cells #[.int .i64 f.1, .int .i64 f.2] 76)).alloc (.cells #[.int .i64 f.1, .int .i64 f.2] 80)).heap[w.heap.size + 1]? = some (.cells #[.nilIface] 28 (0, 0)) := by rw [hold _ _ (by have := (Array.getElem?_eq_some_iff.1 k2).1; simp; omega), hold _ _ (Array.getElem?_eq_some_iff.1 k2).1, k2]
    have q3 : ((w3'.alloc (.cells #[.int .i64 f.1, .int .i64 f.2] 76)).alloc (.cells #[.int .i64 f.1, .int .i64 f.2] 80)).heap[w3'.heap.size + 1]? = some (.cells #[.int .i64 f.1, .int .i64 f.2] 80 (0, 0)) := hnewAt _ _ (by simp)
    have q4 := set_two q1 q2 (.pointer none) (.iface 78 (.pointer (some ⟨w3'.heap.size + 1, 0, none⟩)))
    rw [← hw4] at q4
    have hl3 := (Array.getElem?_eq_some_iff.1 k2).1
    refine ⟨.tuple #[.pointer none, .iface 78 (.pointer (some ⟨w3'.heap.size + 1, 0, none⟩))], ?_, ⟨_, _, rfl, Or.inr (Or.inl ⟨hs, f, hrd, rfl, w3'.heap.size + 1, rfl, by omega, ?_⟩)⟩, ?_⟩
    · simp [results, Tryz.results9, go_sem, q4.1, q4.2]
    · rw [hw4, hother _ (by omega), hother _ (by omega), q3]
    · rw [hw4]
      exact (((ha3.alloc _).alloc _).setNew ⟨w.heap.size, 0, none⟩ (Nat.le_refl _) _).setNew ⟨w.heap.size + 1, 0, none⟩ (by show w.heap.size ≤ w.heap.size + 1; omega) _
  intro t S2 v w4 hf hv cx4 hx
  obtain ⟨kb, rfl⟩ := vNode_ptr hv
  have hz2 := unhide HZ2
  have hz3 := (unhide HA3).size
  have k1 := (hx.block w.heap.size (Array.getElem?_eq_some_iff.1 (unhide HK1)).1 (by omega)).trans (unhide HK1)
  have k2 := (hx.block (w.heap.size + 1) (Array.getElem?_eq_some_iff.1 (unhide HK2)).1 (by omega)).trans (unhide HK2)
  have ha4 := ext_add2 (unhide HA3) hx (by omega)
  have HRD4 := hide ((unhide HRD).trans hf)
  have hn4 : NodeAt (fun j => w3.heap.size ≤ j) w4 (.pointer (some ⟨kb, 0, none⟩)) t := hv
  have hn5 : NodeAt (fun j => w3.heap.size ≤ j) (w4.setCell ⟨w.heap.size, 0, none⟩ (.pointer (some ⟨kb, 0, none⟩))) (.pointer (some ⟨kb, 0, none⟩)) t := hn4.keep (fun _ h => h) (fun j hj _ => hother _ (by omega)) _ _
  obtain ⟨K, hK⟩ : ∃ K : Int, K = wrap64 (t.many : Int) := ⟨_, rfl⟩
  have hm := many_any t _ hn5
  rw [← hK] at hm
  have HM := hide hm
  have HN5 := hide hn5
  have HA4 := hide ha4
  have HK := hide hK
  have HB2 := hide k2
  have c1 : w4.cell? ⟨w.heap.size, 0, none⟩ = some (.pointer none) := hcell k1 0
  have f1 := hfroz k1 0
  have HB1 := hide k1
  clear hz2 hm hn4 hn5 hv hf hx ha4 hK k2 HRD HA3 HK1 HK2 HC3 HLOW cx4 k1
  go_wp2_with fail
  refine (unhide HM).mono ?_
  rintro e wz ⟨rfl, hwz⟩
  have k1 := hset (i := 0) (unhide HB1) (.pointer (some ⟨kb, 0, none⟩))
  have k2 : (w4.setCell ⟨w.heap.size, 0, none⟩ (.pointer (some ⟨kb, 0, none⟩))).heap[w.heap.size + 1]? = some (.cells #[.nilIface] 28 (0, 0)) := (hother _ (by omega)).trans (unhide HB2)
  have HA5 := hide ((unhide HA4).setNew ⟨w.heap.size, 0, none⟩ (Nat.le_refl _) (.pointer (some ⟨kb, 0, none⟩)))
  rw [← hwz] at k1 k2 HA5 HN5
  clear HM HA4 HB1 HB2 c1 f1 hwz
  have c1 : wz.cell? ⟨w.heap.size, 0, none⟩ = some (.pointer (some ⟨kb, 0, none⟩)) := hcell k1 0
  have c2 : wz.cell? ⟨w.heap.size + 1, 0, none⟩ = some .nilIface := hcell k2 0
  have f1 := hfroz k1 0
  have f2 := hfroz k2 0
  have HB1 := hide k1
  have HB2 := hide k2
  clear k1 k2
  have HN6 : Hid (NodeAt (fun j => w.heap.size + 2 ≤ j) wz (.pointer (some ⟨kb, 0, none⟩)) t) := NodeAt.mono (unhide HN5) fun j hj => by have := unhide HZ2; omega
  clear HN5
  by_cases hbig : 1200 < K
  · have b1 : decide ((1200 : Int) < K) = true := by simp [hbig]
    go_wp2_with fail
    refine leaves_cons (f := 16) (args := #[.pointer (some ⟨w.heap.size, 0, none⟩), .pointer (some ⟨w.heap.size + 1, 0, none⟩)]) (by simp) (by simp [go_sem]) ?_
    refine (catch_idle ⟨w.heap.size, 0, none⟩ ⟨w.heap.size + 1, 0, none⟩ _).mono ?_
    rintro e u' w6 ⟨rfl, rfl, hw6⟩
    have q4 := set_two (unhide HB1) (unhide HB2) (.pointer none) (.iface 34 (.int .i64 4))
    rw [← hw6] at q4
    refine ⟨.tuple #[.pointer none, .iface 34 (.int .i64 4)], ?_, ⟨_, _, rfl, Or.inr (Or.inr (Or.inl ⟨hs, t, S2, unhide HRD4, by rw [← unhide HK]; exact hbig, rfl, rfl⟩))⟩, ?_⟩
    · simp [results, Tryz.results9, go_sem, q4.1, q4.2]
    · rw [hw6]
      exact ((unhide HA5).setNew ⟨w.heap.size, 0, none⟩ (Nat.le_refl _) _).setNew ⟨w.heap.size + 1, 0, none⟩ (by show w.heap.size ≤ w.heap.size + 1; omega) _
  · have b1 : decide ((1200 : Int) < K) = false := by simp; omega
    go_wp2_with fail
    refine leaves_cons (f := 16) (args := #[.pointer (some ⟨w.heap.size, 0, none⟩), .pointer (some ⟨w.heap.size + 1, 0, none⟩)]) (by simp) (by simp [go_sem]) ?_
    refine (catch_idle ⟨w.heap.size, 0, none⟩ ⟨w.heap.size + 1, 0, none⟩ _).mono ?_
    rintro e u' w6 ⟨rfl, rfl, hw6⟩
    have q4 := set_two (unhide HB1) (unhide HB2) (.pointer (some ⟨kb, 0, none⟩)) .nilIface
    rw [← hw6] at q4
    refine ⟨.tuple #[.pointer (some ⟨kb, 0, none⟩), .nilIface], ?_, ⟨_, _, rfl, Or.inr (Or.inr (Or.inr ⟨hs, t, S2, unhide HRD4, by rw [← unhide HK]; omega, ?_, rfl⟩))⟩, ?_⟩
    · simp [results, Tryz.results9, go_sem, q4.1, q4.2]
    · show NodeAt _ _ _ _
      rw [hw6]
      exact (unhide HN6).keep (fun j hj => by omega) (fun j hj _ => (hother _ (by omega)).trans (hother _ (by omega))) _ _
    · rw [hw6]
      exact ((unhide HA5).setNew ⟨w.heap.size, 0, none⟩ (Nat.le_refl _) _).setNew ⟨w.heap.size + 1, 0, none⟩ (by show w.heap.size ≤ w.heap.size + 1; omega) _
end Go.Proofs.YtjcoobkpmpjpbaaGreatDoor

namespace Go.Proofs.YtjcoobkpmpjpbaaGreatDoor
open Go.RowKit
set_option linter.unusedVariables false

/-- What a node's kind asks of its parts; its texts are short. -/
def Here (t : Tree) : Prop := ((t.kind = 4 ∨ t.kind = 5 ∨ t.kind = 28 → ∃ p b, t.kids = [p, b]) ∧ (t.kind = 15 → ∃ b, t.kids = [b]) ∧ (t.kind = 45 → t.kids ≠ [])) ∧ t.text.size ≤ 300 ∧ t.under.size ≤ 300
def WfN : Nat → Tree → Prop
  | 0, _ => True
  | f + 1, t => Here t ∧ ∀ k ∈ t.kids, WfN f k
def Wf (t : Tree) : Prop := ∀ f, WfN f t
theorem Wf.here {t : Tree} (h : Wf t) : Here t := (h 1).1
theorem Wf.kid {t k : Tree} (h : Wf t) (hk : k ∈ t.kids) : Wf k := fun f => (h (f + 1)).2 k hk
theorem Wf.mk {t : Tree} (h : Here t) (hk : ∀ k ∈ t.kids, Wf k) : Wf t
  | 0 => trivial
  | f + 1 => ⟨h, fun k hm => hk k hm f⟩
def plainK (k : Nat) : Prop := k ≠ 4 ∧ k ≠ 5 ∧ k ≠ 28 ∧ k ≠ 15 ∧ k ≠ 45
theorem plain_of {k : Nat} (h : (k != 4 && k != 5 && k != 28 && k != 15 && k != 45) = true) : plainK k := by
  simp only [Bool.and_eq_true, bne_iff_ne] at h
  exact ⟨h.1.1.1.1, h.1.1.1.2, h.1.1.2, h.1.2, h.2⟩
theorem Wf.plain {t : Tree} (h : plainK t.kind) (h1 : t.text.size ≤ 300) (h2 : t.under.size ≤ 300) (hk : ∀ k ∈ t.kids, Wf k) : Wf t := by
  obtain ⟨a1, a2, a3, a4, a5⟩ := h
  exact Wf.mk ⟨⟨fun e => by omega, fun e => absurd e a4, fun e => absurd e a5⟩, h1, h2⟩ hk
theorem no_size : noText.size ≤ 300 := by decide
theorem Wf.bare {k ln : Nat} (h : plainK k) {l : List Tree} (hk : ∀ t ∈ l, Wf t) : Wf (nd k ln l) := Wf.plain h no_size no_size hk
theorem Wf.name {k ln : Nat} {s : ByteArray} (h : plainK k) (hs : s.size ≤ 300) {l : List Tree} (hk : ∀ t ∈ l, Wf t) : Wf (ndT k s ln l) := Wf.plain h hs no_size hk
def Tx (S : LS) : Prop := S.tx.size ≤ 300
def Ends {α : Type} (Q : α → Prop) (r : Res α) : Prop := ∀ a S, r = .inr (a, S) → Q a ∧ Tx S
section
variable {α β : Type} {Q : α → Prop} {R : β → Prop} {S : LS}
theorem eb {t : Res α} {k : α → LS → Res β} (h : Ends Q t) (hk : ∀ a S, Q a → Tx S → Ends R (k a S)) : Ends R (bnd t k) := fun b S e => by
  obtain ⟨a, S1, h1, h2⟩ := bnd_some e
  exact hk a S1 (h a S1 h1).1 (h a S1 h1).2 b S h2
theorem ei {a : α} (h : Q a) (hS : Tx S) : Ends Q (.inr (a, S)) := fun _ _ e => by cases e; exact ⟨h, hS⟩
theorem el {f : Int × Nat} : Ends Q (.inl f : Res α) := fun _ _ e => by cases e
theorem ef {c : Prop} [Decidable c] {a b : Res α} (ha : Ends Q a) (hb : Ends Q b) : Ends Q (if c then a else b) := by
  split
  · exact ha
  · exact hb
end
theorem advS_tx {S T : LS} (h0 : S.tx.size = 0) (h : advS S = .inr T) : Tx T := by
  have hz : Tx S := by unfold Tx; omega
  unfold advS at h
  repeat' split at h
  all_goals first
    | (cases h; exact hz)
    | (cases h; unfold Tx; simp only; omega)
    | (cases h; unfold Tx; simp only [ByteArray.size, List.size_toArray]; omega)
    | (cases h; done)
theorem take_tx (S : LS) : Ends (fun _ => True) (takeP S) := fun a T h => by
  have := takeP_ok h
  unfold advP at this
  exact ⟨trivial, advS_tx rfl this⟩
section
variable {β : Type} {R : β → Prop} {S : LS}
theorem bt {k : Unit → LS → Res β} (hk : ∀ S1, Tx S1 → Ends R (k () S1)) : Ends R (bnd (takeP S) k) := eb (take_tx S) fun _ S1 _ h => hk S1 h
theorem want_tx (m : ByteArray) (S : LS) : Ends (fun _ => True) (wantP m S) := by
  unfold wantP
  exact ef (take_tx S) el
theorem bw {m : ByteArray} {k : Unit → LS → Res β} (hk : ∀ S1, Tx S1 → Ends R (k () S1)) : Ends R (bnd (wantP m S) k) := eb (want_tx m S) fun _ S1 _ h => hk S1 h
theorem accept_tx (m : ByteArray) {S : LS} (hS : Tx S) : Ends (fun _ => True) (acceptP m S) := by
  unfold acceptP
  exact ef (eb (take_tx S) fun _ _ _ h => ei trivial h) (ei trivial hS)
theorem ba {m : ByteArray} {k : Bool → LS → Res β} (hS : Tx S) (hk : ∀ b S1, Tx S1 → Ends R (k b S1)) : Ends R (bnd (acceptP m S) k) := eb (accept_tx m hS) fun b S1 _ h => hk b S1 h
theorem bl {n : Nat} {k : Unit → LS → Res β} (hS : Tx S) (hk : ∀ S1, Tx S1 → Ends R (k () S1)) : Ends R (bnd (limitP n S) k) := eb (Q := fun _ => True) (fun a T h => by rw [limit_on h]; exact ⟨trivial, hS⟩) fun _ S1 _ h => hk S1 h
theorem name_tx {S : LS} (hS : Tx S) : Ends (fun s => s.size ≤ 300) (nameP S) := by
  unfold nameP
  exact ef (eb (take_tx S) fun _ _ _ h => ei hS h) el
theorem bn {k : ByteArray → LS → Res β} (hS : Tx S) (hk : ∀ s S1, s.size ≤ 300 → Tx S1 → Ends R (k s S1)) : Ends R (bnd (nameP S) k) := eb (name_tx hS) fun s S1 h1 h => hk s S1 h1 h
end
abbrev AllWf (l : List Tree) : Prop := ∀ t ∈ l, Wf t
theorem an : AllWf [] := fun _ h => by cases h
theorem ao {t : Tree} (h : Wf t) : AllWf [t] := fun _ e => by rw [List.mem_singleton.1 e]; exact h
theorem as' {l : List Tree} {t : Tree} (hl : AllWf l) (h : Wf t) : AllWf (l ++ [t]) := fun u hu => by
  rcases List.mem_append.1 hu with q | q
  · exact hl u q
  · rw [List.mem_singleton.1 q]; exact h
theorem ac {l : List Tree} {t : Tree} (h : Wf t) (hl : AllWf l) : AllWf (t :: l) := fun u hu => by
  rcases List.mem_cons.1 hu with q | q
  · rw [q]; exact h
  · exact hl u q
def Rdr (P : LS → Res Tree) : Prop := ∀ S, Tx S → Ends Wf (P S)
theorem leaf_wf {k : Nat} (h : plainK k) : Rdr (leafP k) := fun _ hS => bt fun _ h1 => ei (Wf.plain h hS no_size an) h1
theorem param_wf : Rdr paramP := fun _ hS => bn hS fun _ _ hs h1 => ei (Wf.plain (plain_of rfl) hs no_size an) h1
theorem listLoop_wf {shut : ByteArray} {P : LS → Res Tree} (hP : Rdr P) : ∀ (f : Nat) (acc : List Tree) (S : LS), AllWf acc → Tx S → Ends AllWf (listLoop shut P f acc S)
  | 0, _, _, _, _ => el
  | f + 1, acc, S, h, hS => bl hS fun S0 h0 => eb (hP S0 h0) fun t S1 ht h1 => ba h1 fun b S2 h2 => ef (ei (as' h ht) h2) (bw fun S3 h3 => listLoop_wf hP f _ S3 (as' h ht) h3)
theorem listed_wf {shut : ByteArray} {P : LS → Res Tree} (hP : Rdr P) (S : LS) (hS : Tx S) : Ends AllWf (listedP shut P S) := ba hS fun _ S1 h1 => ef (ei an h1) (listLoop_wf hP 9 [] S1 an h1)
theorem params_wf : Rdr paramsP := fun _ _ => bw fun S1 h1 => eb (listed_wf param_wf S1 h1) fun _ _ h h2 => ei (Wf.plain (plain_of rfl) no_size no_size h) h2
theorem until_wf {shut : ByteArray} {P : LS → Res Tree} (hP : Rdr P) : ∀ (f : Nat) (acc : List Tree) (S : LS), AllWf acc → Tx S → Ends AllWf (untilP shut P f acc S)
  | 0, _, _, _, _ => el
  | f + 1, acc, S, h, hS => ba hS fun _ S1 h1 => ef (ei h h1) (eb (hP S1 h1) fun t S2 ht h2 => until_wf hP f _ S2 (as' h ht) h2)
/-- What reads one deeper reads such parts. -/
structure LowWf (L : Low) : Prop where
  v : Rdr L.V
  s : Rdr L.S
  n : Rdr L.N
theorem two_wf {k : Nat} (hk : k = 4 ∨ k = 5 ∨ k = 28) {s : ByteArray} (hs : s.size ≤ 300) {ln : Nat} {p b : Tree} (hp : Wf p) (hb : Wf b) : Wf (ndT k s ln [p, b]) :=
  Wf.mk ⟨⟨fun _ => ⟨p, b, rfl⟩, fun e => absurd e (by show ¬ k = 15; omega), fun e => absurd e (by show ¬ k = 45; omega)⟩, hs, no_size⟩ (ac hp (ao hb))
section
variable {L : Low} (hL : LowWf L)
include hL
theorem block_wf : Rdr (blockP L) := fun _ _ => bw fun S1 h1 => eb (until_wf hL.s 3002 [] S1 an h1) fun _ _ h h2 => ei (Wf.plain (plain_of rfl) no_size no_size h) h2
theorem body_wf (S : LS) (hS : Tx S) : Ends (fun pb => Wf pb.1 ∧ Wf pb.2) (bodyP L S) := eb (params_wf S hS) fun _ S1 hp h1 => eb (block_wf hL S1 h1) fun _ _ hb h2 => ei ⟨hp, hb⟩ h2
theorem inPar_wf : Rdr (inParP L) := fun _ _ => bw fun S1 h1 => eb (hL.v S1 h1) fun _ _ h _ => bw fun _ h3 => ei h h3
theorem args_wf (S : LS) (hS : Tx S) : Ends AllWf (argsP L S) := listed_wf hL.v S hS
theorem method_wf : Rdr (methodP L) := fun _ hS => bn hS fun _ S2 hs h2 => eb (body_wf hL S2 h2) fun _ _ h h3 => ei (two_wf (Or.inl rfl) hs h.1 h.2) h3
theorem fn_wf : Rdr (fnP L) := fun _ _ => bt fun _ h1 => bn h1 fun _ S2 hs h2 => eb (body_wf hL S2 h2) fun _ _ h h3 => ei (two_wf (Or.inr (Or.inl rfl)) hs h.1 h.2) h3
theorem lambda_wf : Rdr (lambdaP L) := fun _ _ => bt fun S1 h1 => eb (body_wf hL S1 h1) fun _ _ h h3 => ei (two_wf (s := noText) (Or.inr (Or.inr rfl)) no_size h.1 h.2) h3
end
theorem field_wf (n : Nat) : Rdr (fieldP n) := fun _ _ => bt fun _ h1 => bl h1 fun _ h2 => bn h2 fun _ _ hs _ => bw fun _ h4 => ei (Wf.name (plain_of rfl) hs an) h4
theorem fields_wf : ∀ (f : Nat) (acc : List Tree) (S : LS), AllWf acc → Tx S → Ends AllWf (fieldsP f acc S)
  | 0, _, _, _, _ => el
  | f + 1, acc, S, h, hS => ef (eb (field_wf acc.length S hS) fun t S1 ht h1 => fields_wf f _ S1 (as' h ht) h1) (ei h hS)
theorem under_wf (S : LS) (hS : Tx S) : Ends (fun s => s.size ≤ 300) (underP S) := ba hS fun _ S1 h1 => ef (name_tx h1) (ei no_size h1)
section
variable {L : Low} (hL : LowWf L)
include hL
theorem class_wf : Rdr (classP L) := fun _ _ => bt fun _ h1 => bn h1 fun _ S2 hs h2 => eb (under_wf S2 h2) fun _ _ hu _ => bw fun S4 h4 => eb (fields_wf 10 [] S4 an h4) fun fs S5 hf h5 => eb (until_wf (method_wf hL) 3002 fs S5 hf h5) fun _ _ h h6 => ei (Wf.plain (plain_of rfl) hs hu h) h6
theorem outermost_wf : Rdr (outermostP L) := fun S hS => ef (class_wf hL S hS) (ef (fn_wf hL S hS) (hL.s S hS))
theorem prog_wf : ∀ (f : Nat) (acc : List Tree) (S : LS), AllWf acc → Tx S → Ends AllWf (progLoop L f acc S)
  | 0, _, _, _, _ => el
  | f + 1, acc, S, h, hS => ef (ei h hS) (eb (outermost_wf hL S hS) fun t S1 ht h1 => prog_wf f _ S1 (as' h ht) h1)
theorem program_wf : Rdr (programP L) := fun S hS => eb (prog_wf hL 3002 [] S an hS) fun _ _ h h1 => ei (Wf.bare (plain_of rfl) h) h1
end
theorem close_wf {P : LS → Res Tree} (hP : Rdr P) : Rdr (closeP P) := fun S hS => eb (hP S hS) fun _ _ h _ => bw fun _ h2 => ei h h2
theorem endP_wf {k : Nat} (hk : plainK k) {P : LS → Res Tree} (hP : Rdr P) : Rdr (endP k P) := fun _ _ => bt fun S1 h1 => eb (close_wf hP S1 h1) fun _ _ h h2 => ei (Wf.bare hk (ao h)) h2
section
variable {L : Low} (hL : LowWf L)
include hL
theorem variable_wf : Rdr (variableP L) := fun _ _ => bt fun _ h1 => bn h1 fun _ _ hs _ => bw fun S3 h3 => eb (close_wf hL.v S3 h3) fun _ _ h h4 => ei (Wf.name (plain_of rfl) hs (ao h)) h4
theorem guarded_wf {k : Nat} (hk : plainK k) (S : LS) (_ : Tx S) : Ends (fun t => Wf t ∧ t.kind = k) (guardedP L k S) := bt fun S1 h1 => eb (inPar_wf hL S1 h1) fun _ S2 hc h2 => eb (block_wf hL S2 h2) fun _ _ hb h3 => ei ⟨Wf.bare hk (ac hc (ao hb)), rfl⟩ h3
theorem choice_wf : Rdr (choiceP L) := fun S hS => eb (guarded_wf hL (k := 10) (plain_of rfl) S hS) fun t _ ht h1 => ba h1 fun _ S2 h2 => ef (eb (block_wf hL S2 h2) fun _ _ hu h3 => ei (Wf.plain (t := { t with kids := t.kids ++ [_] }) (by show plainK t.kind; rw [ht.2]; exact plain_of rfl) ht.1.here.2.1 ht.1.here.2.2 (as' (fun k hk => ht.1.kid hk) hu)) h3) (ei ht.1 h2)
theorem returned_wf : Rdr (returnedP L) := fun _ _ => bt fun _ h1 => ba h1 fun _ S2 h2 => ef (ei (Wf.bare (plain_of rfl) an) h2) (eb (close_wf hL.v S2 h2) fun _ _ h h3 => ei (Wf.bare (plain_of rfl) (ao h)) h3)
theorem catch_wf : Rdr (catchP L) := fun _ _ => bw fun _ _ => bw fun _ h2 => bn h2 fun _ _ hs _ => bw fun S4 h4 => eb (block_wf hL S4 h4) fun b _ hb h5 => ei (Wf.mk ⟨⟨fun e => absurd e (by show ¬ ((15 : Nat) = 4 ∨ (15 : Nat) = 5 ∨ (15 : Nat) = 28); decide), fun _ => ⟨b, rfl⟩, fun e => absurd e (by show ¬ (15 : Nat) = 45; decide)⟩, hs, no_size⟩ (ao hb)) h5
theorem try_wf : Rdr (tryP L) := fun _ _ => bt fun S1 h1 => eb (block_wf hL S1 h1) fun _ S2 hb h2 => eb (catch_wf hL S2 h2) fun _ _ hc h3 => ei (Wf.bare (plain_of rfl) (ac hb (ao hc))) h3
theorem bare_wf : Rdr (bareP L) := fun S hS => eb (hL.v S hS) fun _ _ ht _ => ef (ef (bt fun S2 h2 => eb (hL.v S2 h2) fun _ _ hu _ => bw fun _ h4 => ei (Wf.bare (plain_of rfl) (ac ht (ao hu))) h4) el) (bw fun _ h2 => ei (Wf.bare (plain_of rfl) (ao ht)) h2)
theorem any_wf : Rdr (anyP L) := fun S hS => ef (variable_wf hL S hS) (ef (choice_wf hL S hS) (ef (fun a S1 e => ⟨(guarded_wf hL (plain_of rfl) S hS a S1 e).1.1, (guarded_wf hL (plain_of rfl) S hS a S1 e).2⟩) (ef (returned_wf hL S hS) (ef (endP_wf (plain_of rfl) hL.v S hS) (ef (endP_wf (plain_of rfl) (inPar_wf hL) S hS) (ef (try_wf hL S hS) (bare_wf hL S hS)))))))
end
theorem joiner_plain (lev : Nat) (S : LS) : plainK (joinerP lev S) := by
  unfold joinerP
  have all : (signRows.all fun s => s.2.1 != 4 && s.2.1 != 5 && s.2.1 != 28 && s.2.1 != 15 && s.2.1 != 45) = true := by decide
  split
  · rename_i s h
    exact plain_of (List.all_eq_true.1 all s (List.mem_of_find?_eq_some h))
  · exact plain_of rfl
theorem around_wf {k : Nat} (hk : plainK k) {t : Tree} (h : Wf t) {l : List Tree} (hl : AllWf l) : Wf (around k t l) := Wf.bare hk (ac h hl)
theorem joinLoop_wf {lev : Nat} {P : LS → Res Tree} (hP : Rdr P) : ∀ (f : Nat) (t : Tree) (S : LS), Wf t → Tx S → Ends Wf (joinLoop lev P f t S)
  | 0, _, _, _, _ => el
  | f + 1, t, S, h, hS => ef (ei h hS) (bt fun S1 h1 => eb (hP S1 h1) fun _ S2 hu h2 => joinLoop_wf hP f _ S2 (around_wf (joiner_plain lev S) h (ao hu)) h2)
theorem jo_wf {P : LS → Res Tree} (hP : Rdr P) : ∀ (n : Nat), Rdr (jo P n)
  | 0 => hP
  | n + 1 => fun S hS => eb (jo_wf hP n S hS) fun t S1 h h1 => joinLoop_wf (jo_wf hP n) 3002 t S1 h h1
theorem call_wf {t : Tree} (h : Wf t) {l : List Tree} (hl : AllWf l) : Wf (around 45 t l) :=
  Wf.mk ⟨⟨fun e => absurd e (by show ¬ ((45 : Nat) = 4 ∨ (45 : Nat) = 5 ∨ (45 : Nat) = 28); decide), fun e => absurd e (by show ¬ (45 : Nat) = 15; decide), fun _ => by simp [around, nd]⟩, no_size, no_size⟩ (ac h hl)
theorem const_plain (S : LS) : plainK (constP S) := by
  unfold constP
  repeat' split
  all_goals exact plain_of rfl
section
variable {L : Low} (hL : LowWf L)
include hL
theorem member_wf {t : Tree} (h : Wf t) : Rdr (memberP L t) := fun _ hS => bn hS fun _ _ hs h1 => ba h1 fun _ S2 h2 => ef (eb (args_wf hL S2 h2) fun _ _ hu h3 => ei (Wf.name (plain_of rfl) hs (ac h hu)) h3) (ei (Wf.name (plain_of rfl) hs (ao h)) h2)
theorem suf_wf : ∀ (f : Nat) (t : Tree) (S : LS), Wf t → Tx S → Ends Wf (sufLoop L f t S)
  | 0, _, _, _, _ => el
  | f + 1, t, S, h, hS => ba hS fun _ S1 h1 => ef (eb (member_wf hL h S1 h1) fun u S2 hu h2 => suf_wf f u S2 hu h2) (ba h1 fun _ S2 h2 => ef (eb (hL.v S2 h2) fun _ _ hu _ => bw fun S4 h4 => suf_wf f _ S4 (around_wf (plain_of rfl) h (ao hu)) h4) (ba h2 fun _ S3 h3 => ef (eb (args_wf hL S3 h3) fun _ S4 hu h4 => suf_wf f _ S4 (call_wf h hu) h4) (ei h h3)))
theorem named_wf {k : Nat} (hk : plainK k) (ln : Nat) : Rdr (namedP L k ln) := fun _ hS => bn hS fun _ _ hs _ => bw fun S2 h2 => eb (args_wf hL S2 h2) fun _ _ h h3 => ei (Wf.name hk hs h) h3
theorem marked_wf : Rdr (markedP L) := fun S hS => by
  unfold markedP
  refine ef (inPar_wf hL S hS) (ef (bt fun S1 h1 => eb (listed_wf hL.v S1 h1) fun _ _ h h2 => ei (Wf.bare (plain_of rfl) h) h2) (ef (lambda_wf hL S hS) (ef (bt fun S1 h1 => named_wf hL (plain_of rfl) _ S1 h1) (ef (bt fun _ _ => bw fun S2 h2 => named_wf hL (plain_of rfl) _ S2 h2) (ef (bt fun _ _ => bw fun _ _ => bw fun _ h3 => ei (Wf.bare (plain_of rfl) an) h3) (ef (bt fun S1 h1 => eb (inPar_wf hL S1 h1) fun _ _ h h2 => ei (Wf.bare (plain_of rfl) (ao h)) h2) ?_))))))
  exact el
theorem simple_wf : Rdr (simpleP L) := fun S hS => ef (leaf_wf (plain_of rfl) S hS) (ef (leaf_wf (plain_of rfl) S hS) (ef (leaf_wf (plain_of rfl) S hS) (ef (marked_wf hL S hS) (leaf_wf (const_plain S) S hS))))
theorem suffixed_wf : Rdr (suffixedP L) := fun S hS => eb (simple_wf hL S hS) fun t S1 h h1 => suf_wf hL 3002 t S1 h h1
theorem signed_wf {k : Nat} (hk : plainK k) : Rdr (signedP L k) := fun _ _ => bt fun S1 h1 => eb (hL.n S1 h1) fun _ _ h h2 => ei (Wf.bare hk (ao h)) h2
theorem prefixed_wf : Rdr (prefixedP L) := fun S hS => ef (signed_wf hL (plain_of rfl) S hS) (ef (signed_wf hL (plain_of rfl) S hS) (suffixed_wf hL S hS))
end
theorem deep_wf {P : LS → Res Tree} (hP : Rdr P) : Rdr (deepP P) := fun S hS => ef el (eb (hP { S with dp := S.dp + 1 } hS) fun _ _ h h1 => ei h h1)
theorem lower_wf : ∀ d, LowWf (lower d)
  | 0 => ⟨fun _ _ => el, fun _ _ => el, fun _ _ => el⟩
  | d + 1 => ⟨deep_wf (jo_wf (prefixed_wf (lower_wf d)) 6), deep_wf (any_wf (lower_wf d)), deep_wf (prefixed_wf (lower_wf d))⟩
theorem readP_wf {s : ByteArray} {v : Value} {t : Tree} {S : LS} (h : readP s v = .inr (t, S)) : Wf t := by
  unfold readP at h
  split at h
  · cases h
  · rename_i T hT
    exact (program_wf (lower_wf 26) T (by unfold advP at hT; exact advS_tx rfl hT) t S h).1
end Go.Proofs.YtjcoobkpmpjpbaaGreatDoor
