/-
  A new reader.
  How many nodes there are; what was thrown.
-/
import Derived.Test.YtcpjefdbgjlnnaaGreatDoorM14
import Derived.Laws.EntriesVeiled
namespace Go.Proofs.YtcpjefdbgjlnnaaGreatDoor
open Go.RowKit

set_option maxRecDepth 100000 in
set_option maxHeartbeats 1000000 in
theorem joinedBy_any (w : World) (r l : Nat) (fn : Fn) (pre caps : Array Value) :
    Calls Tryz.prog 78 #[.pointer (some ⟨r, 0, none⟩), .int .i64 l, .func fn pre caps] w fun e w' =>
      e = .returned (.func (.func 117) #[] #[.pointer (some ⟨w.heap.size + 2, 0, none⟩), .pointer (some ⟨w.heap.size, 0, none⟩), .pointer (some ⟨w.heap.size + 1, 0, none⟩)]) ∧
      w' = ((w.alloc (.cells #[.pointer (some ⟨r, 0, none⟩)] 86)).alloc (.cells #[.int .i64 l] 3)).alloc (.cells #[.func fn pre caps] 81) := by
  have hmf : ∀ (fn : Fn) (first cap : Array Value) (w : World), (Instr.makeFunc fn first cap).run Tryz.prog w = .ok (.func fn first cap) w := fun _ _ _ _ => rfl
  go_enter Tryz.func78, Tryz.ntmps78
  go_wp2_with fail
  go_ret
  exact ⟨rfl, rfl⟩

/-- The readers of strengths above one lie in memory. -/
structure JcF (w : World) (r l : Nat) : Prop where
  rr : ∀ i, l < i → i ≤ 6 → ∃ t, w.heap[jbase r i]? = some (.cells #[.pointer (some ⟨r, 0, none⟩)] t (0, 0))
  lv : ∀ i : Nat, l < i → i ≤ 6 → ∃ t, w.heap[jbase r i + 1]? = some (.cells #[.int .i64 i] t (0, 0))
  pt : ∀ i, l < i → i ≤ 6 → ∃ t, w.heap[jbase r i + 2]? = some (.cells #[jpart r i] t (0, 0))

theorem JcF.keep {w w' : World} {r l : Nat} (h : JcF w r l) (hk : ∀ j, r < j → j < w.heap.size → w'.heap[j]? = w.heap[j]?) : JcF w' r l := by
  refine ⟨fun i h1 h2 => ?_, fun i h1 h2 => ?_, fun i h1 h2 => ?_⟩
  · obtain ⟨t, h⟩ := h.rr i h1 h2
    exact ⟨t, (hk _ (by unfold jbase; omega) (Array.getElem?_eq_some_iff.1 h).1).trans h⟩
  · obtain ⟨t, h⟩ := h.lv i h1 h2
    exact ⟨t, (hk _ (by unfold jbase; omega) (Array.getElem?_eq_some_iff.1 h).1).trans h⟩
  · obtain ⟨t, h⟩ := h.pt i h1 h2
    exact ⟨t, (hk _ (by unfold jbase; omega) (Array.getElem?_eq_some_iff.1 h).1).trans h⟩
theorem JcF.more {w : World} {r l : Nat} (h : JcF w r (l + 1)) (hs : w.heap.size = jbase r (l + 1)) {v : Value} (hv : v = jpart r (l + 1)) (t1 t2 t3 : TypeId) : JcF (((w.alloc (.cells #[.pointer (some ⟨r, 0, none⟩)] t1)).alloc (.cells #[.int .i64 ((l + 1 : Nat) : Int)] t2)).alloc (.cells #[v] t3)) r l := by
  have hk := h.keep (w' := ((w.alloc (.cells #[.pointer (some ⟨r, 0, none⟩)] t1)).alloc (.cells #[.int .i64 ((l + 1 : Nat) : Int)] t2)).alloc (.cells #[v] t3)) fun j _ hj => by
    rw [hold _ _ (by simp; omega), hold _ _ (by simp; omega), hold _ _ hj]
  subst hv
  refine ⟨fun i h1 h2 => ?_, fun i h1 h2 => ?_, fun i h1 h2 => ?_⟩
  · by_cases e : i = l + 1
    · subst e
      exact ⟨t1, by rw [← hs, hold _ _ (by simp; omega), hold _ _ (by simp), hnew]⟩
    · exact hk.rr i (by omega) h2
  · by_cases e : i = l + 1
    · subst e
      exact ⟨t2, by rw [← hs, hold _ _ (by simp)]; exact hnewAt _ _ (by simp)⟩
    · exact hk.lv i (by omega) h2
  · by_cases e : i = l + 1
    · subst e
      exact ⟨t3, by rw [← hs]; exact hnewAt _ _ (by simp)⟩
    · exact hk.pt i (by omega) h2
theorem jpart_form (r l : Nat) : ∃ fn pre caps, jpart r l = .func fn pre caps := by
  unfold jpart
  split
  · exact ⟨_, _, _, rfl⟩
  · exact ⟨_, _, _, rfl⟩
theorem jpart_low (r l : Nat) (h : l + 1 ≤ 6) : jpart r l = jval r (l + 1) := by
  unfold jpart
  rw [if_neg (by omega)]
theorem Rd.set10 {w : World} {r : Nat} {S : LS} (h : Rd w r S) (v : Value) : Rd (w.setCell ⟨r, 10, none⟩ v) r { S with jn := v } := h.heap_setCell 10 _

/-- How a new reader comes to its first token. -/
def newP (s : ByteArray) (r : Nat) : Res Unit := match advP (firstS s (jval r 1)) with
  | .inl f => .inl f
  | .inr S => .inr ((), S)

theorem first_calls {w : World} {r : Nat} {s : ByteArray} (h : Rd w r (firstS s (jval r 1))) (hs : s.size ≤ 3000) (tabs : Tabs w r) (jc : Jc w r) :
    Calls Tryz.prog 79 #[.pointer (some ⟨r, 0, none⟩)] w fun e w' => Ret (newP s r) r vUnit e w' ∧ Ext r w w' := by
  have fit : Fit (firstS s (jval r 1)) := ⟨hs, Nat.zero_le _, Nat.le_refl _⟩
  refine (advance_any h fit tabs).mono ?_
  rintro e w' ⟨hp, hx⟩
  refine ⟨?_, hx⟩
  unfold newP
  cases ha : advP (firstS s (jval r 1)) with
  | inl f => rw [ha] at hp; exact hp
  | inr S' =>
    rw [ha] at hp
    have hok := advP_ok fit ha
    exact ⟨_, hp.1, rfl, hp.2, hok.1, tabs.ext hx, jc.ext hx, hok.2.2.jn⟩

set_option maxRecDepth 100000 in
set_option maxHeartbeats 4000000 in
theorem newReader_any {w : World} (tabs : Tabs w w.heap.size) (s : ByteArray) (hs : s.size ≤ 3000) :
    Calls Tryz.prog 48 #[.string s] w fun e w' => Ret (newP s w.heap.size) w.heap.size (fun _ v _ => v = .pointer (some ⟨w.heap.size, 0, none⟩)) e w' ∧ Ext w.heap.size w w' := by
  have HT := hide tabs
  clear tabs
  have hmf : ∀ (fn : Fn) (first cap : Array Value) (w : World), (Instr.makeFunc fn first cap).run Tryz.prog w = .ok (.func fn first cap) w := fun _ _ _ _ => rfl
  have hb0 := hnew w (.cells #[.string s, .int .i64 0, .int .i64 1, .int .i64 0, .int .i64 0, .int .i64 0, .string ⟨#[]⟩, .string ⟨#[]⟩, .int .i64 0, .int .i64 0, .nilFunc] 132)
  have q10 : (w.alloc (.cells #[.string s, .int .i64 0, .int .i64 1, .int .i64 0, .int .i64 0, .int .i64 0, .string ⟨#[]⟩, .string ⟨#[]⟩, .int .i64 0, .int .i64 0, .nilFunc] 132)).cell? ⟨w.heap.size, 10, none⟩ = some .nilFunc := hcell hb0 10
  have f10 := hfroz hb0 10
  have HB := hide hb0
  clear hb0
  go_enter Tryz.func48, Tryz.ntmps48
  go_wp2_with fail
  have HR0 : Hid (Rd (w.alloc (.cells #[.string s, .int .i64 0, .int .i64 1, .int .i64 0, .int .i64 0, .int .i64 0, .string ⟨#[]⟩, .string ⟨#[]⟩, .int .i64 0, .int .i64 0, .func (.func 77) #[.pointer (some ⟨w.heap.size, 0, none⟩)] #[]] 132)) w.heap.size (firstS s (jpart w.heap.size 6))) := ⟨_, hnew _ _⟩
  have HX0 : Hid (Ext w.heap.size w (w.alloc (.cells #[.string s, .int .i64 0, .int .i64 1, .int .i64 0, .int .i64 0, .int .i64 0, .string ⟨#[]⟩, .string ⟨#[]⟩, .int .i64 0, .int .i64 0, .func (.func 77) #[.pointer (some ⟨w.heap.size, 0, none⟩)] #[]] 132))) := (Ext.refl _ w).alloc _
  have hz0 : (w.alloc (.cells #[.string s, .int .i64 0, .int .i64 1, .int .i64 0, .int .i64 0, .int .i64 0, .string ⟨#[]⟩, .string ⟨#[]⟩, .int .i64 0, .int .i64 0, .func (.func 77) #[.pointer (some ⟨w.heap.size, 0, none⟩)] #[]] 132)).heap.size = w.heap.size + 1 := by simp
  clear q10 f10 HB
  generalize (w.alloc (.cells #[.string s, .int .i64 0, .int .i64 1, .int .i64 0, .int .i64 0, .int .i64 0, .string ⟨#[]⟩, .string ⟨#[]⟩, .int .i64 0, .int .i64 0, .func (.func 77) #[.pointer (some ⟨w.heap.size, 0, none⟩)] #[]] 132)) = w0 at *
  go_loopg [4] 6 (fun gg lv wr => ∃ l : Nat, l ≤ 6 ∧ gg = l ∧ lv = .int .i64 l ∧ Hid (Rd wr w.heap.size (firstS s (jpart w.heap.size l))) ∧ Hid (Ext w.heap.size w wr) ∧ wr.heap.size = w.heap.size + 1 + 3 * (6 - l) ∧ Hid (JcF wr w.heap.size l))
  case atStart => exact ⟨6, Nat.le_refl _, rfl, rfl, unhide HR0, unhide HX0, by omega, ⟨fun i h1 h2 => by omega, fun i h1 h2 => by omega, fun i h1 h2 => by omega⟩⟩
  case round =>
    clear HR0 HX0 hz0
    obtain ⟨l, hl, hgl, rfl, HR, HX, hsz, HJ⟩ := hrel
    subst hgl
    by_cases h1 : 1 ≤ gk
    · obtain ⟨i, rfl⟩ : ∃ i, gk = i + 1 := ⟨gk - 1, by omega⟩
      obtain ⟨fn, pre, caps, hform⟩ := jpart_form w.heap.size (i + 1)
      have c10 : wr.cell? ⟨w.heap.size, 10, none⟩ = some (.func fn pre caps) := by rw [← hform]; exact (unhide HR).c10
      have f10 := (unhide HR).frozen 10
      have b0 : decide ((1 : Int) ≤ ((i + 1 : Nat) : Int)) = true := by simp; omega
      have HF := hide hform
      clear hform
      go_wp2_with fail
      refine (joinedBy_any wr w.heap.size (i + 1) fn pre caps).mono ?_
      rintro e w2 ⟨rfl, rfl⟩
      have HJ2 := hide ((unhide HJ).more (by rw [hsz]; unfold jbase; omega) (unhide HF).symm 86 3 81)
      have HR2 := hide ((((unhide HR).alloc (.cells #[.pointer (some ⟨w.heap.size, 0, none⟩)] 86)).alloc (.cells #[.int .i64 ((i + 1 : Nat) : Int)] 3)).alloc (.cells #[.func fn pre caps] 81))
      have HX2 := hide ((((unhide HX).alloc (.cells #[.pointer (some ⟨w.heap.size, 0, none⟩)] 86)).alloc (.cells #[.int .i64 ((i + 1 : Nat) : Int)] 3)).alloc (.cells #[.func fn pre caps] 81))
      have hsz2 : (((wr.alloc (.cells #[.pointer (some ⟨w.heap.size, 0, none⟩)] 86)).alloc (.cells #[.int .i64 ((i + 1 : Nat) : Int)] 3)).alloc (.cells #[.func fn pre caps] 81)).heap.size = wr.heap.size + 3 := by simp
      clear c10 f10 HJ HR HX
      generalize (((wr.alloc (.cells #[.pointer (some ⟨w.heap.size, 0, none⟩)] 86)).alloc (.cells #[.int .i64 ((i + 1 : Nat) : Int)] 3)).alloc (.cells #[.func fn pre caps] 81)) = w2 at *
      have c10 : w2.cell? ⟨w.heap.size, 10, none⟩ = some (.func fn pre caps) := by rw [← unhide HF]; exact (unhide HR2).c10
      have f10 := (unhide HR2).frozen 10
      go_wp2_with fail
      go_roundg i
      case measure => omega
      case rel =>
        have hq : w.heap.size + 1 + 3 * (5 - i) = jbase w.heap.size (i + 1) := by unfold jbase; omega
        refine ⟨i, by omega, rfl, by go_num, ?_, (unhide HX2).setCell 10 _, by simp; omega, (unhide HJ2).keep fun j hj _ => hother _ (by omega)⟩
        rw [hq, jpart_low _ _ (by omega)]
        exact (unhide HR2).set10 _
    · have b0 : decide ((1 : Int) ≤ (gk : Int)) = false := by simp; omega
      obtain rfl : gk = 0 := by omega
      go_wp2_with fail
      refine Ret.call (first_calls (unhide HR) hs ((unhide HT).ext (unhide HX)) ⟨fun l h1 h2 => (unhide HJ).rr l h1 h2, fun l h1 h2 => (unhide HJ).lv l h1 h2, fun l h1 h2 => (unhide HJ).pt l h1 h2⟩) ?_ ?_
      · intro f wz hf hx
        exact ⟨rfl, Ret.inl hf, (unhide HX).trans hx⟩
      intro a S1 v w2 hf hv cx1 hx
      obtain rfl : v = .tuple #[] := hv
      have HF := hide hf
      have HX2 := hide ((unhide HX).trans hx)
      clear hf hx HR HX HJ
      go_wp2_with fail
      go_ret
      exact ⟨Ret.inr (unhide HF) rfl cx1, unhide HX2⟩
end Go.Proofs.YtcpjefdbgjlnnaaGreatDoor

namespace Go.Proofs.YtcpjefdbgjlnnaaGreatDoor
open Go.RowKit

/-- How many parts a tree has. -/
def Tree.many : Tree → Nat
  | ⟨_, _, _, _, _, kids⟩ => 1 + (kids.attach.map fun ⟨k, _⟩ => k.many).sum
theorem many_eq (t : Tree) : t.many = 1 + (t.kids.map Tree.many).sum := by
  obtain ⟨a, b, c, d, e, kids⟩ := t
  rw [Tree.many]
  simp

/-- The cells of a list of kids. -/
theorem Row.cellAt {A : Nat → Prop} {w : World} {ks : Value} {vs : List Value} (h : Row A w ks vs) : (ks = .slice none 0 0 ∧ vs = []) ∨ ∃ g cap, ks = .slice (some ⟨g, 0, none⟩) vs.length cap ∧ vs.length ≤ maxLen ∧ ∀ i, i < vs.length → w.cell? ⟨g, i, none⟩ = some (vs.getD i undef) := by
  rcases h with h | ⟨g, cap, cur, h1, _, h3, h4, h5, h6, h7⟩
  · exact Or.inl h
  · refine Or.inr ⟨g, cap, h1, by omega, fun i hi => ?_⟩
    rw [hcell h3 i, ← Array.getElem?_toList, List.getD]
    have e : vs[i]? = (cur.toList.take vs.length)[i]? := by rw [h7]
    rw [e, List.getElem?_take, if_pos hi]
    have hlt : i < cur.toList.length := by simp; omega
    rw [List.getElem?_eq_getElem hlt]
    rfl

theorem wrap_add (a b : Int) : wrap64 (wrap64 a + wrap64 b) = wrap64 (a + b) := by
  unfold wrap64
  omega

theorem sum_take (l : List Tree) {k : Nat} (h : k < l.length) : ((l.take (k + 1)).map Tree.many).sum = ((l.take k).map Tree.many).sum + l[k].many := by
  rw [List.take_succ_eq_append_getElem h, List.map_append, List.sum_append]
  simp only [List.map_cons, List.map_nil, List.sum_cons, List.sum_nil]
  omega

set_option maxRecDepth 100000 in
set_option maxHeartbeats 4000000 in
theorem many_any {A : Nat → Prop} {w : World} : ∀ (t : Tree) (v : Value), NodeAt A w v t → Calls Tryz.prog 15 #[v] w fun e w' => e = .returned (.int .i64 (wrap64 (t.many : Int))) ∧ w' = w := by
  refine tree_ind _ fun t ih v h => ?_
  rw [NodeAt_iff] at h
  obtain ⟨b, ty, ks, vs, rfl, _, h3, h4, h5, h6⟩ := h
  have c5 : w.cell? ⟨b, 5, none⟩ = some ks := hcell h3 5
  have IH : Hid (∀ i (hi : i < t.kids.length), Calls Tryz.prog 15 #[vs.getD i undef] w fun e w' => e = .returned (.int .i64 (wrap64 (t.kids[i].many : Int))) ∧ w' = w) := fun i hi => ih _ (List.getElem_mem hi) _ (h6 i hi)
  clear ih h3 h6
  have HM := hide (many_eq t)
  rcases h4.cellAt with ⟨rfl, rfl⟩ | ⟨g, cap, rfl, hmax, hcells⟩
  · clear h4
    have HK := hide (show t.kids = [] from List.eq_nil_of_length_eq_zero (by rw [← h5]; rfl))
    clear h5 IH
    go_enter Tryz.func15, Tryz.ntmps15
    go_wp2_with fail
    go_loopg [3, 13] 1 (fun gg m i wr => gg = 1 ∧ m = .int .i64 1 ∧ i = .int .i64 0 ∧ wr = w)
    case atStart => exact ⟨rfl, rfl, rfl, rfl⟩
    case round =>
      obtain ⟨rfl, rfl, rfl, rfl⟩ := hrel
      go_wp2_with fail
      go_ret
      rw [show wrap64 (t.many : Int) = 1 by rw [unhide HM, unhide HK]; simp [wrap64]]
      exact ⟨rfl, rfl⟩
  · clear h4
    obtain ⟨N, hN⟩ : ∃ N, vs.length = N := ⟨_, rfl⟩
    rw [hN] at hmax hcells c5 h5
    unfold maxLen at hmax
    have HCS := hide hcells
    clear hcells
    go_enter Tryz.func15, Tryz.ntmps15
    go_wp2_with fail
    go_loopg [3, 13] N (fun gg m i wr => ∃ (k : Nat) (M : Int), k ≤ N ∧ gg = N - k ∧ i = .int .i64 k ∧ m = .int .i64 M ∧ Hid (M = wrap64 ((1 + ((t.kids.take k).map Tree.many).sum : Nat) : Int)) ∧ wr = w)
    case atStart => exact ⟨0, 1, Nat.zero_le _, rfl, rfl, rfl, by show (1 : Int) = wrap64 ((1 + ((t.kids.take 0).map Tree.many).sum : Nat) : Int); rw [List.take_zero]; simp [wrap64], rfl⟩
    case round =>
      obtain ⟨k, M, hk, rfl, rfl, rfl, HW, rfl⟩ := hrel
      by_cases hlt : k < N
      · have hc := unhide HCS k hlt
        have hlt2 : (k : Int) < (N : Int) := by omega
        obtain ⟨K, hK⟩ : ∃ K : Int, K = wrap64 (t.kids[k].many : Int) := ⟨_, rfl⟩
        have hi := unhide IH k (by omega)
        rw [← hK] at hi
        have HI := hide hi
        have HT : Hid (wrap64 (M + K) = wrap64 ((1 + ((t.kids.take (k + 1)).map Tree.many).sum : Nat) : Int)) := by
          show wrap64 (M + K) = _
          rw [unhide HW, hK, wrap_add, sum_take t.kids (show k < t.kids.length by omega)]
          congr 1
          omega
        clear hi hK IH HW
        generalize vs.getD k undef = kv at *
        go_wp2_with fail
        refine (unhide HI).mono ?_
        rintro e wz ⟨rfl, rfl⟩
        go_wp2_with fail
        go_roundg (N - (k + 1))
        case measure => omega
        case rel => exact ⟨k + 1, _, by omega, rfl, by go_num, rfl, unhide HT, rfl⟩
      · obtain rfl : k = N := by omega
        have hf : decide ((k : Int) < (k : Int)) = false := by simp
        have HT := hide (show M = wrap64 (t.many : Int) by rw [unhide HW, unhide HM, List.take_of_length_le (by omega)])
        clear HW IH
        go_wp2_with fail
        go_ret
        rw [← unhide HT]
        exact ⟨rfl, rfl⟩

set_option maxRecDepth 100000 in
set_option maxHeartbeats 4000000 in
theorem caught_any (w : World) (e p : Int) :
    Calls Tryz.prog 47 #[.iface 123 (.agg #[.int .i64 e, .int .i64 p])] w fun en w' =>
      en = .returned (.iface 125 (.pointer (some ⟨w.heap.size + 1, 0, none⟩))) ∧ w' = (w.alloc (.cells #[.int .i64 e, .int .i64 p] 123)).alloc (.cells #[.int .i64 e, .int .i64 p] 126) := by
  have hta : ∀ w : World, (Instr.typeAssert (.iface 123 (.agg #[.int .i64 e, .int .i64 p])) 20 123 true).run Tryz.prog w = .ok (.tuple #[.agg #[.int .i64 e, .int .i64 p], .bool true]) w := fun _ => by kernel_rfl
  go_enter Tryz.func47, Tryz.ntmps47
  go_wp2_with fail
  go_ret
  exact ⟨rfl, rfl⟩
end Go.Proofs.YtcpjefdbgjlnnaaGreatDoor
