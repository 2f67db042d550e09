/-
  A new reader.
  Classes, and what is outermost.
  Classes, and what is outermost.
  Signs between values.
-/
import Derived.Test.YtndgajlidckcdaaGreatDoorB12
import Derived.Laws.EntriesVeiled
namespace Go.Proofs.YtndgajlidckcdaaGreatDoor
open Go.RowKit

set_option maxRecDepth 100000 in
set_option maxHeartbeats 1000000 in
theorem joinedBy_any (w : World) (r l : Nat) (fn : Fn) (pre caps : Array Value) :
    Calls Tryz.prog 73 #[.pointer (some ⟨r, 0, none⟩), .int .i64 l, .func fn pre caps] w fun e w' =>
      e = .returned (.func (.func 112) #[] #[.pointer (some ⟨w.heap.size + 2, 0, none⟩), .pointer (some ⟨w.heap.size, 0, none⟩), .pointer (some ⟨w.heap.size + 1, 0, none⟩)]) ∧
      w' = ((w.alloc (.cells #[.pointer (some ⟨r, 0, none⟩)] 84)).alloc (.cells #[.int .i64 l] 3)).alloc (.cells #[.func fn pre caps] 79) := by
  have hmf : ∀ (fn : Fn) (first cap : Array Value) (w : World), (Instr.makeFunc fn first cap).run Tryz.prog w = .ok (.func fn first cap) w := fun _ _ _ _ => rfl
  go_enter Tryz.func73, Tryz.ntmps73
  go_wp2_with fail
  go_ret
  exact ⟨rfl, rfl⟩

/-- The readers of strengths above one lie in memory. -/
structure JcF (w : World) (r l : Nat) : Prop where
  rr : ∀ i, l < i → i ≤ 6 → ∃ t, w.heap[jbase r i]? = some (.cells #[.pointer (some ⟨r, 0, none⟩)] t (0, 0))
  lv : ∀ i : Nat, l < i → i ≤ 6 → ∃ t, w.heap[jbase r i + 1]? = some (.cells #[.int .i64 i] t (0, 0))
  pt : ∀ i, l < i → i ≤ 6 → ∃ t, w.heap[jbase r i + 2]? = some (.cells #[jpart r i] t (0, 0))

theorem JcF.keep {w w' : World} {r l : Nat} (h : JcF w r l) (hk : ∀ j, r < j → j < w.heap.size → w'.heap[j]? = w.heap[j]?) : JcF w' r l := by
  refine ⟨fun i h1 h2 => ?_, fun i h1 h2 => ?_, fun i h1 h2 => ?_⟩
  · obtain ⟨t, h⟩ := h.rr i h1 h2
    exact ⟨t, (hk _ (by unfold jbase; omega) (Array.getElem?_eq_some_iff.1 h).1).trans h⟩
  · obtain ⟨t, h⟩ := h.lv i h1 h2
    exact ⟨t, (hk _ (by unfold jbase; omega) (Array.getElem?_eq_some_iff.1 h).1).trans h⟩
  · obtain ⟨t, h⟩ := h.pt i h1 h2
    exact ⟨t, (hk _ (by unfold jbase; omega) (Array.getElem?_eq_some_iff.1 h).1).trans h⟩
theorem JcF.more {w : World} {r l : Nat} (h : JcF w r (l + 1)) (hs : w.heap.size = jbase r (l + 1)) {v : Value} (hv : v = jpart r (l + 1)) (t1 t2 t3 : TypeId) : JcF (((w.alloc (.cells #[.pointer (some ⟨r, 0, none⟩)] t1)).alloc (.cells #[.int .i64 ((l + 1 : Nat) : Int)] t2)).alloc (.cells #[v] t3)) r l := by
  have hk := h.keep (w' := ((w.alloc (.cells #[.pointer (some ⟨r, 0, none⟩)] t1)).alloc (.cells #[.int .i64 ((l + 1 : Nat) : Int)] t2)).alloc (.cells #[v] t3)) fun j _ hj => by
    rw [hold _ _ (by simp; omega), hold _ _ (by simp; omega), hold _ _ hj]
  subst hv
  refine ⟨fun i h1 h2 => ?_, fun i h1 h2 => ?_, fun i h1 h2 => ?_⟩
  · by_cases e : i = l + 1
    · subst e
      exact ⟨t1, by rw [← hs, hold _ _ (by simp; omega), hold _ _ (by simp), hnew]⟩
    · exact hk.rr i (by omega) h2
  · by_cases e : i = l + 1
    · subst e
      exact ⟨t2, by rw [← hs, hold _ _ (by simp)]; exact hnewAt _ _ (by simp)⟩
    · exact hk.lv i (by omega) h2
  · by_cases e : i = l + 1
    · subst e
      exact ⟨t3, by rw [← hs]; exact hnewAt _ _ (by simp)⟩
    · exact hk.pt i (by omega) h2
theorem jpart_form (r l : Nat) : ∃ fn pre caps, jpart r l = .func fn pre caps := by
  unfold jpart
  split
  · exact ⟨_, _, _, rfl⟩
  · exact ⟨_, _, _, rfl⟩
theorem jpart_low (r l : Nat) (h : l + 1 ≤ 6) : jpart r l = jval r (l + 1) := by
  unfold jpart
  rw [if_neg (by omega)]
theorem Rd.set10 {w : World} {r : Nat} {S : LS} (h : Rd w r S) (v : Value) : Rd (w.setCell ⟨r, 10, none⟩ v) r { S with jn := v } := h.heap_setCell 10 _

/-- How a new reader comes to its first token. -/
def newP (s : ByteArray) (r : Nat) : Res Unit := match advP (firstS s (jval r 1)) with
  | .inl f => .inl f
  | .inr S => .inr ((), S)

theorem first_calls {w : World} {r : Nat} {s : ByteArray} (h : Rd w r (firstS s (jval r 1))) (hs : s.size ≤ 3000) (tabs : Tabs w r) (jc : Jc w r) :
    Calls Tryz.prog 74 #[.pointer (some ⟨r, 0, none⟩)] w fun e w' => Ret (newP s r) r vUnit e w' ∧ Ext r w w' := by
  have fit : Fit (firstS s (jval r 1)) := ⟨hs, Nat.zero_le _, Nat.le_refl _⟩
  refine (advance_any h fit tabs).mono ?_
  rintro e w' ⟨hp, hx⟩
  refine ⟨?_, hx⟩
  unfold newP
  cases ha : advP (firstS s (jval r 1)) with
  | inl f => rw [ha] at hp; exact hp
  | inr S' =>
    rw [ha] at hp
    have hok := advP_ok fit ha
    exact ⟨_, hp.1, rfl, hp.2, hok.1, tabs.ext hx, jc.ext hx, hok.2.2.jn⟩

set_option maxRecDepth 100000 in
set_option maxHeartbeats 4000000 in
theorem newReader_any {w : World} (tabs : Tabs w w.heap.size) (s : ByteArray) (hs : s.size ≤ 3000) :
    Calls Tryz.prog 43 #[.string s] w fun e w' => Ret (newP s w.heap.size) w.heap.size (fun _ v _ => v = .pointer (some ⟨w.heap.size, 0, none⟩)) e w' ∧ Ext w.heap.size w w' := by
  have HT := hide tabs
  clear tabs
  have hmf : ∀ (fn : Fn) (first cap : Array Value) (w : World), (Instr.makeFunc fn first cap).run Tryz.prog w = .ok (.func fn first cap) w := fun _ _ _ _ => rfl
  have hb0 := hnew w (.cells #[.string s, .int .i64 0, .int .i64 1, .int .i64 0, .int .i64 0, .int .i64 0, .string ⟨#[]⟩, .string ⟨#[]⟩, .int .i64 0, .int .i64 0, .nilFunc] 129)
  have q10 : (w.alloc (.cells #[.string s, .int .i64 0, .int .i64 1, .int .i64 0, .int .i64 0, .int .i64 0, .string ⟨#[]⟩, .string ⟨#[]⟩, .int .i64 0, .int .i64 0, .nilFunc] 129)).cell? ⟨w.heap.size, 10, none⟩ = some .nilFunc := hcell hb0 10
  have f10 := hfroz hb0 10
  have HB := hide hb0
  clear hb0
  go_enter Tryz.func43, Tryz.ntmps43
  go_wp2_with fail
  have HR0 : Hid (Rd (w.alloc (.cells #[.string s, .int .i64 0, .int .i64 1, .int .i64 0, .int .i64 0, .int .i64 0, .string ⟨#[]⟩, .string ⟨#[]⟩, .int .i64 0, .int .i64 0, .func (.func 72) #[.pointer (some ⟨w.heap.size, 0, none⟩)] #[]] 129)) w.heap.size (firstS s (jpart w.heap.size 6))) := ⟨_, hnew _ _⟩
  have HX0 : Hid (Ext w.heap.size w (w.alloc (.cells #[.string s, .int .i64 0, .int .i64 1, .int .i64 0, .int .i64 0, .int .i64 0, .string ⟨#[]⟩, .string ⟨#[]⟩, .int .i64 0, .int .i64 0, .func (.func 72) #[.pointer (some ⟨w.heap.size, 0, none⟩)] #[]] 129))) := (Ext.refl _ w).alloc _
  have hz0 : (w.alloc (.cells #[.string s, .int .i64 0, .int .i64 1, .int .i64 0, .int .i64 0, .int .i64 0, .string ⟨#[]⟩, .string ⟨#[]⟩, .int .i64 0, .int .i64 0, .func (.func 72) #[.pointer (some ⟨w.heap.size, 0, none⟩)] #[]] 129)).heap.size = w.heap.size + 1 := by simp
  clear q10 f10 HB
  generalize (w.alloc (.cells #[.string s, .int .i64 0, .int .i64 1, .int .i64 0, .int .i64 0, .int .i64 0, .string ⟨#[]⟩, .string ⟨#[]⟩, .int .i64 0, .int .i64 0, .func (.func 72) #[.pointer (some ⟨w.heap.size, 0, none⟩)] #[]] 129)) = w0 at *
  go_loopg [4] 6 (fun gg lv wr => ∃ l : Nat, l ≤ 6 ∧ gg = l ∧ lv = .int .i64 l ∧ Hid (Rd wr w.heap.size (firstS s (jpart w.heap.size l))) ∧ Hid (Ext w.heap.size w wr) ∧ wr.heap.size = w.heap.size + 1 + 3 * (6 - l) ∧ Hid (JcF wr w.heap.size l))
  case atStart => exact ⟨6, Nat.le_refl _, rfl, rfl, unhide HR0, unhide HX0, by omega, ⟨fun i h1 h2 => by omega, fun i h1 h2 => by omega, fun i h1 h2 => by omega⟩⟩
  case round =>
    clear HR0 HX0 hz0
    obtain ⟨l, hl, hgl, rfl, HR, HX, hsz, HJ⟩ := hrel
    subst hgl
    by_cases h1 : 1 ≤ gk
    · obtain ⟨i, rfl⟩ : ∃ i, gk = i + 1 := ⟨gk - 1, by omega⟩
      obtain ⟨fn, pre, caps, hform⟩ := jpart_form w.heap.size (i + 1)
      have c10 : wr.cell? ⟨w.heap.size, 10, none⟩ = some (.func fn pre caps) := by rw [← hform]; exact (unhide HR).c10
      have f10 := (unhide HR).frozen 10
      have b0 : decide ((1 : Int) ≤ ((i + 1 : Nat) : Int)) = true := by simp; omega
      have HF := hide hform
      clear hform
      go_wp2_with fail
      refine (joinedBy_any wr w.heap.size (i + 1) fn pre caps).mono ?_
      rintro e w2 ⟨rfl, rfl⟩
      have HJ2 := hide ((unhide HJ).more (by rw [hsz]; unfold jbase; omega) (unhide HF).symm 84 3 79)
      have HR2 := hide ((((unhide HR).alloc (.cells #[.pointer (some ⟨w.heap.size, 0, none⟩)] 84)).alloc (.cells #[.int .i64 ((i + 1 : Nat) : Int)] 3)).alloc (.cells #[.func fn pre caps] 79))
      have HX2 := hide ((((unhide HX).alloc (.cells #[.pointer (some ⟨w.heap.size, 0, none⟩)] 84)).alloc (.cells #[.int .i64 ((i + 1 : Nat) : Int)] 3)).alloc (.cells #[.func fn pre caps] 79))
      have hsz2 : (((wr.alloc (.cells #[.pointer (some ⟨w.heap.size, 0, none⟩)] 84)).alloc (.cells #[.int .i64 ((i + 1 : Nat) : Int)] 3)).alloc (.cells #[.func fn pre caps] 79)).heap.size = wr.heap.size + 3 := by simp
      clear c10 f10 HJ HR HX
      generalize (((wr.alloc (.cells #[.pointer (some ⟨w.heap.size, 0, none⟩)] 84)).alloc (.cells #[.int .i64 ((i + 1 : Nat) : Int)] 3)).alloc (.cells #[.func fn pre caps] 79)) = w2 at *
      have c10 : w2.cell? ⟨w.heap.size, 10, none⟩ = some (.func fn pre caps) := by rw [← unhide HF]; exact (unhide HR2).c10
      have f10 := (unhide HR2).frozen 10
      go_wp2_with fail
      go_roundg i
      case measure => omega
      case rel =>
        have hq : w.heap.size + 1 + 3 * (5 - i) = jbase w.heap.size (i + 1) := by unfold jbase; omega
        refine ⟨i, by omega, rfl, by go_num, ?_, (unhide HX2).setCell 10 _, by simp; omega, (unhide HJ2).keep fun j hj _ => hother _ (by omega)⟩
        rw [hq, jpart_low _ _ (by omega)]
        exact (unhide HR2).set10 _
    · have b0 : decide ((1 : Int) ≤ (gk : Int)) = false := by simp; omega
      obtain rfl : gk = 0 := by omega
      go_wp2_with fail
      refine Ret.call (first_calls (unhide HR) hs ((unhide HT).ext (unhide HX)) ⟨fun l h1 h2 => (unhide HJ).rr l h1 h2, fun l h1 h2 => (unhide HJ).lv l h1 h2, fun l h1 h2 => (unhide HJ).pt l h1 h2⟩) ?_ ?_
      · intro f wz hf hx
        exact ⟨rfl, Ret.inl hf, (unhide HX).trans hx⟩
      intro a S1 v w2 hf hv cx1 hx
      obtain rfl : v = .tuple #[] := hv
      have HF := hide hf
      have HX2 := hide ((unhide HX).trans hx)
      clear hf hx HR HX HJ
      go_wp2_with fail
      go_ret
      exact ⟨Ret.inr (unhide HF) rfl cx1, unhide HX2⟩
end Go.Proofs.YtndgajlidckcdaaGreatDoor

namespace Go.Proofs.YtndgajlidckcdaaGreatDoor
open Go.RowKit
attribute [local go_sem ↓] Go.wp_at_zero Go.wp_at_succ

theorem ent_method (r : Nat) : ∀ w : World, Sem.run Tryz.prog (callFunc 185 #[.pointer (some ⟨r, 0, none⟩)]) w = .ok (.enter 185 #[.pointer (some ⟨r, 0, none⟩)]) w := fun _ => by kernel_rfl
theorem ent_field (r n : Nat) : ∀ w : World, Sem.run Tryz.prog (callFunc 184 #[.pointer (some ⟨r, 0, none⟩), .int .i64 n]) w = .ok (.enter 184 #[.pointer (some ⟨r, 0, none⟩), .int .i64 n]) w := fun _ => by kernel_rfl
theorem ent_outer (r : Nat) : ∀ w : World, Sem.run Tryz.prog (callFunc 76 #[.pointer (some ⟨r, 0, none⟩)]) w = .ok (.enter 76 #[.pointer (some ⟨r, 0, none⟩)]) w := fun _ => by kernel_rfl
theorem bnd_inr2 {α β γ : Type} {t : Res α} {g : α → LS → Res β} {k : β → LS → Res γ} {a : α} {S : LS} (h : t = .inr (a, S)) : bnd (bnd t g) k = bnd (g a S) k := by rw [h]; rfl
theorem Und.len_eq {lo : Nat} {w : World} {b k : Nat} {tx un : ByteArray} {n : Int} {ln : Nat} {ts : List Tree} {ks : Value} {vs : List Value} (h : Und (fun j => lo ≤ j) w b k tx un n ln ts ks vs) : ∃ a cap, ks = .slice a ts.length cap := by
  have hl := h.len
  rcases h.row with ⟨rfl, rfl⟩ | ⟨g, cap, cur, rfl, _⟩
  · exact ⟨none, 0, by rw [← hl]; rfl⟩
  · exact ⟨some ⟨g, 0, none⟩, cap, by rw [hl]⟩

set_option maxRecDepth 100000 in
set_option maxHeartbeats 8000000 in
theorem class_any {w : World} {r D : Nat} {S : LS} (cx : Cx w r S) (hD : S.dp = D) {L : Low} (hL : LowC r D L) (hk : S.kd ≠ 0) :
    Calls Tryz.prog 123 #[.pointer (some ⟨r, 0, none⟩)] w fun e w' => Ret (classP L S) r (vNode w.heap.size) e w' ∧ Ext r w w' := by
  obtain ⟨i0, hi, hz0, hz1, hz2⟩ := info_parts infoNode
  have hr0 := cx.jc.lt
  have HL := hide hL
  clear hL
  have HX0 : Hid (Ext r w w) := Ext.refl r w
  have hd0 := hD
  have HC0 := hide cx
  clear cx
  go_enter Tryz.func123, Tryz.ntmps123
  go_wp2_with fail
  refine Ret.call (taken_any (unhide HC0) 2) ?_ ?_
  · intro f wz hf hx
    exact ⟨rfl, Ret.inl (bnd_inl hf), (unhide HX0).trans hx⟩
  intro a1 S1 v w1 hf hv cx1 hx
  obtain ⟨rfl, hu⟩ := hv
  have HU1 := hide hu
  have hon1 := take_on (unhide HC0).ok hk hf
  have hd1 : S1.dp = D := hon1.same.dp.trans hd0
  have HP1 := hide (show (classP L S) = _ from bnd_inr hf)
  have HX1 := hide ((unhide HX0).trans hx)
  have HC1 := hide cx1
  clear hf hx cx1 HC0 HX0 hd0 hu
  go_wp2_with fail
  refine Ret.call (name_any (unhide HC1)) ?_ ?_
  · intro f wz hf hx
    exact ⟨rfl, Ret.inl ((unhide HP1).trans (bnd_inl hf)), (unhide HX1).trans hx⟩
  intro s2 S2 v w2 hf hv cx2 hx
  obtain rfl : v = .string s2 := hv
  have hon2 := name_on (unhide HC1).ok hf
  have hd2 : S2.dp = D := hon2.same.dp.trans hd1
  have HP2 := hide ((unhide HP1).trans (bnd_inr hf))
  have HU2 := hide ((unhide HU1).ext hx fun j hj => by omega)
  have HX2 := hide ((unhide HX1).trans hx)
  have HC2 := hide cx2
  clear hf hx cx2 HC1 HX1 hd1 HP1 HU1
  obtain ⟨t0, hb⟩ := (unhide HU2).cells
  have dq : w2.cell? ⟨w.heap.size, 1, none⟩ = some (.string noText) := hcell hb 1
  have gq := hfroz hb 1
  clear hb
  have HU3 := hide ((unhide HU2).put 1 (.string s2) (tx' := s2) rfl)
  have HX3 := hide ((unhide HX2).setNew ⟨w.heap.size, 1, none⟩ (Nat.le_refl _) (.string s2))
  have HC3 := hide ((unhide HC2).setCell hr0 1 (.string s2))
  have hd3 := hd2
  clear HU2 HX2 HC2
  go_wp2_with fail
  refine Ret.call (accept_any (unhide HC3) tLess) ?_ ?_
  · intro f wz hf hx
    exact ⟨rfl, Ret.inl ((unhide HP2).trans (bnd_inl (bnd_inl hf))), (unhide HX3).trans hx⟩
  intro b4 S4 v w4 hf hv cx4 hx
  obtain rfl : v = .bool b4 := hv
  have hon4 := (accept_on (unhide HC3).ok hf).1
  have hd4 : S4.dp = D := hon4.same.dp.trans hd3
  have HP4 := hide ((unhide HP2).trans (bnd_inr2 hf))
  have HU4 := hide ((unhide HU3).ext hx fun j hj => by omega)
  have HX4 := hide ((unhide HX3).trans hx)
  have HC4 := hide cx4
  clear hf hx cx4 HC3 HX3 hd3 HP2 HU3
  clear dq gq hon1 hon2
  cases b4 with
  | false =>
    have HPf : Hid (classP L S = bnd (wantP tLeft S4) fun _ Sa => bnd (fieldsP 10 [] Sa) fun fs Sb => bnd (untilP tRight (methodP L) 3002 fs Sb) fun ks Sc => .inr (⟨2, s2, noText, 0, S.tl, ks⟩, Sc)) := unhide HP4
    clear HP4 hon4
    go_wp2_with fail
    refine Ret.call (want_any (unhide HC4) tLeft) ?_ ?_
    · intro f wz hf hx
      exact ⟨rfl, Ret.inl ((unhide HPf).trans (bnd_inl hf)), (unhide HX4).trans hx⟩
    intro a5 S5 v w5 hf hv cx5 hx
    obtain rfl : v = .tuple #[] := hv
    have hon5 := want_on (unhide HC4).ok hf
    have hd5 : S5.dp = D := hon5.same.dp.trans hd4
    have HP5 := hide ((unhide HPf).trans (bnd_inr hf))
    have HU5 := hide ((unhide HU4).ext hx fun j hj => by omega)
    have HX5 := hide ((unhide HX4).trans hx)
    have HC5 := hide cx5
    clear hf hx cx5 HC4 HX4 hd4 HPf HU4
    clear hon5
    go_wp2_with fail
    go_loopg [] 10 (fun gg wr => ∃ (S' : LS) (acc : List Tree) (ks : Value) (vs : List Value), Cx wr r S' ∧ S'.dp = D ∧ Hid (Und (fun j => w.heap.size ≤ j) wr w.heap.size 2 s2 noText 0 S.tl acc ks vs) ∧ Hid (Ext r w wr) ∧ gg + acc.length = 10 ∧ acc.length ≤ 8 ∧ Hid ((bnd (fieldsP gg acc S') fun fs S5 => bnd (untilP tRight (methodP L) 3002 fs S5) fun ks S6 => .inr (⟨2, s2, noText, 0, S.tl, ks⟩, S6)) = classP L S))
    case atStart => exact ⟨S5, [], _, _, unhide HC5, hd5, unhide HU5, unhide HX5, rfl, by simp, (unhide HP5).symm⟩
    case round =>
      clear HC5 hd5 HU5 HX5 HP5
      obtain ⟨S', acc, ks, vs, cx, hdp, HU, HX0, hgg, hacc, HE⟩ := hrel
      obtain ⟨f, hgf⟩ : ∃ f, gk = f + 1 := ⟨gk - 1, by omega⟩
      subst hgf
      have HE0 : Hid ((bnd (if S'.is wField = true then bnd (fieldP acc.length S') fun t S1 => fieldsP f (acc ++ [t]) S1 else .inr (acc, S')) fun fs S5 => bnd (untilP tRight (methodP L) 3002 fs S5) fun ks S6 => .inr (⟨2, s2, noText, 0, S.tl, ks⟩, S6)) = classP L S) := unhide HE
      clear HE
      cases hq : S'.is wField with
      | false =>
        have HE1 : Hid ((bnd (untilP tRight (methodP L) 3002 acc S') fun ks S6 => .inr (⟨2, s2, noText, 0, S.tl, ks⟩, S6)) = classP L S) := by
          have := unhide HE0
          rw [if_neg (by rw [hq]; decide)] at this
          exact this
        clear HE0
        go_wp2_with fail
        refine (is_c cx.rd wField hq).mono ?_
        rintro e wz ⟨rfl, rfl⟩
        clear hq
        go_wp2_with fail
        obtain ⟨fs, hfs⟩ : ∃ fs, fs = acc := ⟨_, rfl⟩
        obtain ⟨S6, hS6⟩ : ∃ S6, S6 = S' := ⟨_, rfl⟩
        subst hfs hS6
        go_loopg [] 3002 (fun gg wr => ∃ (S' : LS) (acc : List Tree) (ks : Value) (vs : List Value), Cx wr r S' ∧ S'.dp = D ∧ Hid (Und (fun j => w.heap.size ≤ j) wr w.heap.size 2 s2 noText 0 S.tl acc ks vs) ∧ Hid (Ext r w wr) ∧ 3002 ≤ gg + S'.tp ∧ acc.length ≤ 8 + S'.tp ∧ Hid ((bnd (untilP tRight (methodP L) gg acc S') fun ks S7 => .inr (⟨2, s2, noText, 0, S.tl, ks⟩, S7)) = classP L S))
        case atStart => exact ⟨S6, fs, _, _, cx, hdp, unhide HU, unhide HX0, by omega, by omega, unhide HE1⟩
        case round =>
          clear cx hdp HU HX0 HE1 hgg hacc
          obtain ⟨S', acc, ks, vs, cx, hdp, HU, HX0, hgg, hacc, HE⟩ := hrel
          have htp : S'.tp ≤ 3000 := Nat.le_trans cx.ok.tp (Nat.le_trans cx.ok.fit.pl cx.ok.fit.size)
          rename_i gm
          obtain ⟨f2, hgf⟩ : ∃ f2, gk = f2 + 1 := ⟨gk - 1, by omega⟩
          subst hgf
          have HE1 : Hid ((bnd (bnd (acceptP tRight S') fun b S1 => if b = true then .inr (acc, S1) else bnd (methodP L S1) fun t S2 => untilP tRight (methodP L) f2 (acc ++ [t]) S2) fun ks S7 => .inr (⟨2, s2, noText, 0, S.tl, ks⟩, S7)) = classP L S) := unhide HE
          clear HE
          go_wp2_with fail
          refine Ret.call (accept_any cx tRight) ?_ ?_
          · intro fl w3 hf hx
            exact ⟨rfl, Ret.inl ((unhide HE1).symm.trans (bnd_inl (bnd_inl hf))), (unhide HX0).trans hx⟩
          intro b S3 v w3 hf hv cx3 hx3
          obtain rfl : v = .bool b := hv
          have hon := accept_on cx.ok hf
          have HU3 := hide ((unhide HU).ext hx3 fun j hj => by omega)
          have HX3 := hide ((unhide HX0).trans hx3)
          have HE3 := hide ((bnd_inr2 hf).symm.trans (unhide HE1))
          clear hf HU HX0 HE1 hx3 cx
          cases b with
          | true =>
            clear hon
            go_wp2_with fail
            go_ret
            exact ⟨Ret.inr (unhide HE3).symm (unhide HU3).node cx3, unhide HX3⟩
          | false =>
            obtain rfl := hon.2.2 rfl
            clear hon
            have hvs : vs.length ≤ 3010 := by rw [(unhide HU3).len]; omega
            obtain ⟨t0, hb⟩ := (unhide HU3).cells
            have d5 : w3.cell? ⟨w.heap.size, 5, none⟩ = some ks := hcell hb 5
            have g5 := hfroz hb 5
            have hent := ent_method r
            have HU := HU3
            have HX0 := HX3
            have HC := hide cx3
            have HE : Hid ((bnd (bnd (methodP L S3) fun t S2 => untilP tRight (methodP L) f2 (acc ++ [t]) S2) fun ks S7 => .inr (⟨2, s2, noText, 0, S.tl, ks⟩, S7)) = classP L S) := unhide HE3
            clear HU3 HX3 cx3 HE3 hb
            go_wp2_with fail
            go_region_law ((first | (refine step_append_lies _ (by rfl) _ _ _ (by rfl) 0 22 i0 (.pointer none) 1 8 Tryz.underlying51 hi hz0 hz1 hz2 rfl (by decide) ks vs.length vs (by rfl) ((unhide HO2).alloc _) ⟨w2.heap.size, 0, none⟩ 1 1 [.pointer (some ⟨kb, 0, none⟩)] (by rfl) rfl (cell_one_new _ _ _) (fun u hu => by simp at hu; subst hu; rfl) (by decide) (by unfold maxLen; omega) (by omega) (Nat.zero_le _) (w2.heap.size + 1) (by simp) ?_; intro g cap w3 hown hgrow hat hlt; obtain ⟨e6, f6, HU3, HX3, HC3⟩ := kid_more rfl (unhide HU).drew (unhide HU2) hr0 (unhide HC2) (unhide HX2) (unhide HV2) _ hown hgrow hat; clear hown hgrow hat hlt) | (refine step_call rfl (by simp [Act.eval, hent, go_sem]) (Ret.call (method_any (unhide HC).drew hdp (unhide HL)) (fun f w2 hf hx => ⟨rfl, Ret.inl ((unhide HE).symm.trans (bnd_inl (bnd_inl hf))), ((unhide HX0).drew).trans hx⟩) ?_); intro t S1 v w2 hf hv cx1 hx; obtain ⟨kb, rfl⟩ := vNode_ptr hv; obtain ⟨e5, e5a, HO2, HU2⟩ := kid_call (unhide HU).drew hx (by omega); have HV2 := hide hv; have HC2 := hide cx1; have HX2 := hide (((unhide HX0).drew).trans hx); have HF := hide hf; clear hv cx1 hx hf)))
            all_goals
              have cx4 := unhide HC3
              have hon4 := methodP_good (unhide HL).good _ _ _ (unhide HC).ok (unhide HF)
              have htp4 := hon4.tp
              have hd4 := hon4.same.dp.trans hdp
              have HE4 := hide ((bnd_inr2 (unhide HF)).symm.trans (unhide HE))
              clear d5 g5 hon4 HF HE HU HX0 HC e5 e5a e6 f6
              go_wp2_with fail
              go_roundg f2
              case measure => omega
              case rel => exact ⟨_, acc ++ [t], _, _, cx4, hd4, unhide HU3, unhide HX3, by omega, by simp; omega, unhide HE4⟩
      | true =>
        have HE1 : Hid ((bnd (bnd (fieldP acc.length S') fun t S1 => fieldsP f (acc ++ [t]) S1) fun fs S5 => bnd (untilP tRight (methodP L) 3002 fs S5) fun ks S6 => .inr (⟨2, s2, noText, 0, S.tl, ks⟩, S6)) = classP L S) := by
          have := unhide HE0
          rw [if_pos hq] at this
          exact this
        have HK := hide (is_kd hq)
        clear HE0
        go_wp2_with fail
        refine (is_c cx.rd wField hq).mono ?_
        rintro e wz ⟨rfl, rfl⟩
        clear hq
        obtain ⟨ka, kcap, rfl⟩ := (unhide HU).len_eq
        have hvs : vs.length ≤ 8 := by rw [(unhide HU).len]; exact hacc
        obtain ⟨t0, hb⟩ := (unhide HU).cells
        have d5 : wr.cell? ⟨w.heap.size, 5, none⟩ = some (.slice ka acc.length kcap) := hcell hb 5
        have g5 := hfroz hb 5
        have hent := ent_field r acc.length
        have HC := hide cx
        clear hb cx
        go_wp2_with fail
        go_region_law ((first | (refine step_append_lies _ (by rfl) _ _ _ (by rfl) 0 22 i0 (.pointer none) 1 8 Tryz.underlying51 hi hz0 hz1 hz2 rfl (by decide) (.slice ka acc.length kcap) vs.length vs (by rfl) ((unhide HO2).alloc _) ⟨w2.heap.size, 0, none⟩ 1 1 [.pointer (some ⟨kb, 0, none⟩)] (by rfl) rfl (cell_one_new _ _ _) (fun u hu => by simp at hu; subst hu; rfl) (by decide) (by unfold maxLen; omega) (by omega) (Nat.zero_le _) (w2.heap.size + 1) (by simp) ?_; intro g cap w3 hown hgrow hat hlt; obtain ⟨e6, f6, HU3, HX3, HC3⟩ := kid_more rfl (unhide HU).drew (unhide HU2) hr0 (unhide HC2) (unhide HX2) (unhide HV2) _ hown hgrow hat; clear hown hgrow hat hlt) | (refine step_call rfl (by simp [Act.eval, hent, go_sem]) (Ret.call (field_any (unhide HC).drew hdp acc.length (unhide HK)) (fun f w2 hf hx => ⟨rfl, Ret.inl ((unhide HE1).symm.trans (bnd_inl (bnd_inl hf))), ((unhide HX0).drew).trans hx⟩) ?_); intro t S1 v w2 hf hv cx1 hx; obtain ⟨kb, rfl⟩ := vNode_ptr hv; obtain ⟨e5, e5a, HO2, HU2⟩ := kid_call (unhide HU).drew hx (by omega); have HV2 := hide hv; have HC2 := hide cx1; have HX2 := hide (((unhide HX0).drew).trans hx); have HF := hide hf; clear hv cx1 hx hf)))
        all_goals
          have cx4 := unhide HC3
          have hon4 := fieldP_on (unhide HC).ok (unhide HK) (unhide HF)
          have hne8 := hon4.2
          have hd4 := hon4.1.same.dp.trans hdp
          have HE4 := hide ((bnd_inr2 (unhide HF)).symm.trans (unhide HE1))
          clear d5 g5 hon4 HF HE1 HU HX0 HC e5 e5a e6 f6
          go_wp2_with fail
          go_roundg f
          case measure => omega
          case rel => exact ⟨_, acc ++ [t], _, _, cx4, hd4, unhide HU3, unhide HX3, by simp; omega, by simp; omega, unhide HE4⟩
  | true =>
    have HPt : Hid (classP L S = bnd (nameP S4) fun u S3 => bnd (wantP tLeft S3) fun _ Sa => bnd (fieldsP 10 [] Sa) fun fs Sb => bnd (untilP tRight (methodP L) 3002 fs Sb) fun ks Sc => .inr (⟨2, s2, u, 0, S.tl, ks⟩, Sc)) := unhide HP4
    clear HP4 hon4
    go_wp2_with fail
    refine Ret.call (name_any (unhide HC4)) ?_ ?_
    · intro f wz hf hx
      exact ⟨rfl, Ret.inl ((unhide HPt).trans (bnd_inl hf)), (unhide HX4).trans hx⟩
    intro s5 S5 v w5 hf hv cx5 hx
    obtain rfl : v = .string s5 := hv
    have hon5 := name_on (unhide HC4).ok hf
    have hd5 : S5.dp = D := hon5.same.dp.trans hd4
    have HP5 := hide ((unhide HPt).trans (bnd_inr hf))
    have HU5 := hide ((unhide HU4).ext hx fun j hj => by omega)
    have HX5 := hide ((unhide HX4).trans hx)
    have HC5 := hide cx5
    clear hf hx cx5 HC4 HX4 hd4 HPt HU4
    obtain ⟨t0, hb⟩ := (unhide HU5).cells
    have dq : w5.cell? ⟨w.heap.size, 2, none⟩ = some (.string noText) := hcell hb 2
    have gq := hfroz hb 2
    clear hb
    have HU6 := hide ((unhide HU5).put 2 (.string s5) (un' := s5) rfl)
    have HX6 := hide ((unhide HX5).setNew ⟨w.heap.size, 2, none⟩ (Nat.le_refl _) (.string s5))
    have HC6 := hide ((unhide HC5).setCell hr0 2 (.string s5))
    have hd6 := hd5
    clear HU5 HX5 HC5
    clear hon5
    go_wp2_with fail
    refine Ret.call (want_any (unhide HC6) tLeft) ?_ ?_
    · intro f wz hf hx
      exact ⟨rfl, Ret.inl ((unhide HP5).trans (bnd_inl hf)), (unhide HX6).trans hx⟩
    intro a7 S7 v w7 hf hv cx7 hx
    obtain rfl : v = .tuple #[] := hv
    have hon7 := want_on (unhide HC6).ok hf
    have hd7 : S7.dp = D := hon7.same.dp.trans hd6
    have HP7 := hide ((unhide HP5).trans (bnd_inr hf))
    have HU7 := hide ((unhide HU6).ext hx fun j hj => by omega)
    have HX7 := hide ((unhide HX6).trans hx)
    have HC7 := hide cx7
    clear hf hx cx7 HC6 HX6 hd6 HP5 HU6
    clear hon7
    go_wp2_with fail
    go_loopg [] 10 (fun gg wr => ∃ (S' : LS) (acc : List Tree) (ks : Value) (vs : List Value), Cx wr r S' ∧ S'.dp = D ∧ Hid (Und (fun j => w.heap.size ≤ j) wr w.heap.size 2 s2 s5 0 S.tl acc ks vs) ∧ Hid (Ext r w wr) ∧ gg + acc.length = 10 ∧ acc.length ≤ 8 ∧ Hid ((bnd (fieldsP gg acc S') fun fs S5 => bnd (untilP tRight (methodP L) 3002 fs S5) fun ks S6 => .inr (⟨2, s2, s5, 0, S.tl, ks⟩, S6)) = classP L S))
    case atStart => exact ⟨S7, [], _, _, unhide HC7, hd7, unhide HU7, unhide HX7, rfl, by simp, (unhide HP7).symm⟩
    case round =>
      clear HC7 hd7 HU7 HX7 HP7
      obtain ⟨S', acc, ks, vs, cx, hdp, HU, HX0, hgg, hacc, HE⟩ := hrel
      obtain ⟨f, hgf⟩ : ∃ f, gk = f + 1 := ⟨gk - 1, by omega⟩
      subst hgf
      have HE0 : Hid ((bnd (if S'.is wField = true then bnd (fieldP acc.length S') fun t S1 => fieldsP f (acc ++ [t]) S1 else .inr (acc, S')) fun fs S5 => bnd (untilP tRight (methodP L) 3002 fs S5) fun ks S6 => .inr (⟨2, s2, s5, 0, S.tl, ks⟩, S6)) = classP L S) := unhide HE
      clear HE
      cases hq : S'.is wField with
      | false =>
        have HE1 : Hid ((bnd (untilP tRight (methodP L) 3002 acc S') fun ks S6 => .inr (⟨2, s2, s5, 0, S.tl, ks⟩, S6)) = classP L S) := by
          have := unhide HE0
          rw [if_neg (by rw [hq]; decide)] at this
          exact this
        clear HE0
        go_wp2_with fail
        refine (is_c cx.rd wField hq).mono ?_
        rintro e wz ⟨rfl, rfl⟩
        clear hq
        go_wp2_with fail
        obtain ⟨fs, hfs⟩ : ∃ fs, fs = acc := ⟨_, rfl⟩
        obtain ⟨S6, hS6⟩ : ∃ S6, S6 = S' := ⟨_, rfl⟩
        subst hfs hS6
        go_loopg [] 3002 (fun gg wr => ∃ (S' : LS) (acc : List Tree) (ks : Value) (vs : List Value), Cx wr r S' ∧ S'.dp = D ∧ Hid (Und (fun j => w.heap.size ≤ j) wr w.heap.size 2 s2 s5 0 S.tl acc ks vs) ∧ Hid (Ext r w wr) ∧ 3002 ≤ gg + S'.tp ∧ acc.length ≤ 8 + S'.tp ∧ Hid ((bnd (untilP tRight (methodP L) gg acc S') fun ks S7 => .inr (⟨2, s2, s5, 0, S.tl, ks⟩, S7)) = classP L S))
        case atStart => exact ⟨S6, fs, _, _, cx, hdp, unhide HU, unhide HX0, by omega, by omega, unhide HE1⟩
        case round =>
          clear cx hdp HU HX0 HE1 hgg hacc
          obtain ⟨S', acc, ks, vs, cx, hdp, HU, HX0, hgg, hacc, HE⟩ := hrel
          have htp : S'.tp ≤ 3000 := Nat.le_trans cx.ok.tp (Nat.le_trans cx.ok.fit.pl cx.ok.fit.size)
          rename_i gm
          obtain ⟨f2, hgf⟩ : ∃ f2, gk = f2 + 1 := ⟨gk - 1, by omega⟩
          subst hgf
          have HE1 : Hid ((bnd (bnd (acceptP tRight S') fun b S1 => if b = true then .inr (acc, S1) else bnd (methodP L S1) fun t S2 => untilP tRight (methodP L) f2 (acc ++ [t]) S2) fun ks S7 => .inr (⟨2, s2, s5, 0, S.tl, ks⟩, S7)) = classP L S) := unhide HE
          clear HE
          go_wp2_with fail
          refine Ret.call (accept_any cx tRight) ?_ ?_
          · intro fl w3 hf hx
            exact ⟨rfl, Ret.inl ((unhide HE1).symm.trans (bnd_inl (bnd_inl hf))), (unhide HX0).trans hx⟩
          intro b S3 v w3 hf hv cx3 hx3
          obtain rfl : v = .bool b := hv
          have hon := accept_on cx.ok hf
          have HU3 := hide ((unhide HU).ext hx3 fun j hj => by omega)
          have HX3 := hide ((unhide HX0).trans hx3)
          have HE3 := hide ((bnd_inr2 hf).symm.trans (unhide HE1))
          clear hf HU HX0 HE1 hx3 cx
          cases b with
          | true =>
            clear hon
            go_wp2_with fail
            go_ret
            exact ⟨Ret.inr (unhide HE3).symm (unhide HU3).node cx3, unhide HX3⟩
          | false =>
            obtain rfl := hon.2.2 rfl
            clear hon
            have hvs : vs.length ≤ 3010 := by rw [(unhide HU3).len]; omega
            obtain ⟨t0, hb⟩ := (unhide HU3).cells
            have d5 : w3.cell? ⟨w.heap.size, 5, none⟩ = some ks := hcell hb 5
            have g5 := hfroz hb 5
            have hent := ent_method r
            have HU := HU3
            have HX0 := HX3
            have HC := hide cx3
            have HE : Hid ((bnd (bnd (methodP L S3) fun t S2 => untilP tRight (methodP L) f2 (acc ++ [t]) S2) fun ks S7 => .inr (⟨2, s2, s5, 0, S.tl, ks⟩, S7)) = classP L S) := unhide HE3
            clear HU3 HX3 cx3 HE3 hb
            go_wp2_with fail
            go_region_law ((first | (refine step_append_lies _ (by rfl) _ _ _ (by rfl) 0 22 i0 (.pointer none) 1 8 Tryz.underlying51 hi hz0 hz1 hz2 rfl (by decide) ks vs.length vs (by rfl) ((unhide HO2).alloc _) ⟨w2.heap.size, 0, none⟩ 1 1 [.pointer (some ⟨kb, 0, none⟩)] (by rfl) rfl (cell_one_new _ _ _) (fun u hu => by simp at hu; subst hu; rfl) (by decide) (by unfold maxLen; omega) (by omega) (Nat.zero_le _) (w2.heap.size + 1) (by simp) ?_; intro g cap w3 hown hgrow hat hlt; obtain ⟨e6, f6, HU3, HX3, HC3⟩ := kid_more rfl (unhide HU).drew (unhide HU2) hr0 (unhide HC2) (unhide HX2) (unhide HV2) _ hown hgrow hat; clear hown hgrow hat hlt) | (refine step_call rfl (by simp [Act.eval, hent, go_sem]) (Ret.call (method_any (unhide HC).drew hdp (unhide HL)) (fun f w2 hf hx => ⟨rfl, Ret.inl ((unhide HE).symm.trans (bnd_inl (bnd_inl hf))), ((unhide HX0).drew).trans hx⟩) ?_); intro t S1 v w2 hf hv cx1 hx; obtain ⟨kb, rfl⟩ := vNode_ptr hv; obtain ⟨e5, e5a, HO2, HU2⟩ := kid_call (unhide HU).drew hx (by omega); have HV2 := hide hv; have HC2 := hide cx1; have HX2 := hide (((unhide HX0).drew).trans hx); have HF := hide hf; clear hv cx1 hx hf)))
            all_goals
              have cx4 := unhide HC3
              have hon4 := methodP_good (unhide HL).good _ _ _ (unhide HC).ok (unhide HF)
              have htp4 := hon4.tp
              have hd4 := hon4.same.dp.trans hdp
              have HE4 := hide ((bnd_inr2 (unhide HF)).symm.trans (unhide HE))
              clear d5 g5 hon4 HF HE HU HX0 HC e5 e5a e6 f6
              go_wp2_with fail
              go_roundg f2
              case measure => omega
              case rel => exact ⟨_, acc ++ [t], _, _, cx4, hd4, unhide HU3, unhide HX3, by omega, by simp; omega, unhide HE4⟩
      | true =>
        have HE1 : Hid ((bnd (bnd (fieldP acc.length S') fun t S1 => fieldsP f (acc ++ [t]) S1) fun fs S5 => bnd (untilP tRight (methodP L) 3002 fs S5) fun ks S6 => .inr (⟨2, s2, s5, 0, S.tl, ks⟩, S6)) = classP L S) := by
          have := unhide HE0
          rw [if_pos hq] at this
          exact this
        have HK := hide (is_kd hq)
        clear HE0
        go_wp2_with fail
        refine (is_c cx.rd wField hq).mono ?_
        rintro e wz ⟨rfl, rfl⟩
        clear hq
        obtain ⟨ka, kcap, rfl⟩ := (unhide HU).len_eq
        have hvs : vs.length ≤ 8 := by rw [(unhide HU).len]; exact hacc
        obtain ⟨t0, hb⟩ := (unhide HU).cells
        have d5 : wr.cell? ⟨w.heap.size, 5, none⟩ = some (.slice ka acc.length kcap) := hcell hb 5
        have g5 := hfroz hb 5
        have hent := ent_field r acc.length
        have HC := hide cx
        clear hb cx
        go_wp2_with fail
        go_region_law ((first | (refine step_append_lies _ (by rfl) _ _ _ (by rfl) 0 22 i0 (.pointer none) 1 8 Tryz.underlying51 hi hz0 hz1 hz2 rfl (by decide) (.slice ka acc.length kcap) vs.length vs (by rfl) ((unhide HO2).alloc _) ⟨w2.heap.size, 0, none⟩ 1 1 [.pointer (some ⟨kb, 0, none⟩)] (by rfl) rfl (cell_one_new _ _ _) (fun u hu => by simp at hu; subst hu; rfl) (by decide) (by unfold maxLen; omega) (by omega) (Nat.zero_le _) (w2.heap.size + 1) (by simp) ?_; intro g cap w3 hown hgrow hat hlt; obtain ⟨e6, f6, HU3, HX3, HC3⟩ := kid_more rfl (unhide HU).drew (unhide HU2) hr0 (unhide HC2) (unhide HX2) (unhide HV2) _ hown hgrow hat; clear hown hgrow hat hlt) | (refine step_call rfl (by simp [Act.eval, hent, go_sem]) (Ret.call (field_any (unhide HC).drew hdp acc.length (unhide HK)) (fun f w2 hf hx => ⟨rfl, Ret.inl ((unhide HE1).symm.trans (bnd_inl (bnd_inl hf))), ((unhide HX0).drew).trans hx⟩) ?_); intro t S1 v w2 hf hv cx1 hx; obtain ⟨kb, rfl⟩ := vNode_ptr hv; obtain ⟨e5, e5a, HO2, HU2⟩ := kid_call (unhide HU).drew hx (by omega); have HV2 := hide hv; have HC2 := hide cx1; have HX2 := hide (((unhide HX0).drew).trans hx); have HF := hide hf; clear hv cx1 hx hf)))
        all_goals
          have cx4 := unhide HC3
          have hon4 := fieldP_on (unhide HC).ok (unhide HK) (unhide HF)
          have hne8 := hon4.2
          have hd4 := hon4.1.same.dp.trans hdp
          have HE4 := hide ((bnd_inr2 (unhide HF)).symm.trans (unhide HE1))
          clear d5 g5 hon4 HF HE1 HU HX0 HC e5 e5a e6 f6
          go_wp2_with fail
          go_roundg f
          case measure => omega
          case rel => exact ⟨_, acc ++ [t], _, _, cx4, hd4, unhide HU3, unhide HX3, by simp; omega, by simp; omega, unhide HE4⟩

end Go.Proofs.YtndgajlidckcdaaGreatDoor

namespace Go.Proofs.YtndgajlidckcdaaGreatDoor
open Go.RowKit
attribute [local go_sem ↓] Go.wp_at_zero Go.wp_at_succ

set_option maxRecDepth 100000 in
set_option maxHeartbeats 8000000 in
theorem outermost_any_0 {w : World} {r D : Nat} {S : LS} (cx : Cx w r S) (hD : S.dp = D) {L : Low} (hL : LowC r D L) (hb0 : S.is wClass = true) :
    Calls Tryz.prog 76 #[.pointer (some ⟨r, 0, none⟩)] w fun e w' => Ret (classP L S) r (vNode w.heap.size) e w' ∧ Ext r w w' := by
  obtain ⟨i0, hi, hz0, hz1, hz2⟩ := info_parts infoNode
  have hr0 := cx.jc.lt
  have HL := hide hL
  clear hL
  have HX0 : Hid (Ext r w w) := Ext.refl r w
  have hd0 := hD
  have HC0 := hide cx
  clear cx
  go_enter Tryz.func76, Tryz.ntmps76
  have hk := is_kd hb0
  go_wp2_with fail
  refine (is_c (unhide HC0).rd wClass hb0).mono ?_
  rintro e wz ⟨rfl, rfl⟩
  go_wp2_with fail
  refine Ret.call (class_any (unhide HC0) hd0 (unhide HL) hk) ?_ ?_
  · intro f wz hf hx
    exact ⟨rfl, Ret.inl (hf), (unhide HX0).trans hx⟩
  intro t9 S9 v w9 hf hv cx9 hx9
  obtain ⟨kb, rfl⟩ := vNode_ptr hv
  have HP9 := hide (hf)
  have HV9 := hide hv
  clear hf hv
  go_wp2_with fail
  go_ret
  exact ⟨Ret.inr (unhide HP9) (unhide HV9) cx9, (unhide HX0).trans hx9⟩

set_option maxRecDepth 100000 in
set_option maxHeartbeats 8000000 in
theorem outermost_any_1 {w : World} {r D : Nat} {S : LS} (cx : Cx w r S) (hD : S.dp = D) {L : Low} (hL : LowC r D L) (hb0 : S.is wClass = false) (hb1 : S.is wFn = true) :
    Calls Tryz.prog 76 #[.pointer (some ⟨r, 0, none⟩)] w fun e w' => Ret (fnP L S) r (vNode w.heap.size) e w' ∧ Ext r w w' := by
  obtain ⟨i0, hi, hz0, hz1, hz2⟩ := info_parts infoNode
  have hr0 := cx.jc.lt
  have HL := hide hL
  clear hL
  have HX0 : Hid (Ext r w w) := Ext.refl r w
  have hd0 := hD
  have HC0 := hide cx
  clear cx
  go_enter Tryz.func76, Tryz.ntmps76
  have hk := is_kd hb1
  go_wp2_with fail
  refine (is_c (unhide HC0).rd wClass hb0).mono ?_
  rintro e wz ⟨rfl, rfl⟩
  go_wp2_with fail
  refine (is_c (unhide HC0).rd wFn hb1).mono ?_
  rintro e wz ⟨rfl, rfl⟩
  go_wp2_with fail
  refine Ret.call (fn_any (unhide HC0) hd0 (unhide HL) hk) ?_ ?_
  · intro f wz hf hx
    exact ⟨rfl, Ret.inl (hf), (unhide HX0).trans hx⟩
  intro t9 S9 v w9 hf hv cx9 hx9
  obtain ⟨kb, rfl⟩ := vNode_ptr hv
  have HP9 := hide (hf)
  have HV9 := hide hv
  clear hf hv
  go_wp2_with fail
  go_ret
  exact ⟨Ret.inr (unhide HP9) (unhide HV9) cx9, (unhide HX0).trans hx9⟩

set_option maxRecDepth 100000 in
set_option maxHeartbeats 8000000 in
theorem outermost_any_2 {w : World} {r D : Nat} {S : LS} (cx : Cx w r S) (hD : S.dp = D) {L : Low} (hL : LowC r D L) (hb0 : S.is wClass = false) (hb1 : S.is wFn = false) :
    Calls Tryz.prog 76 #[.pointer (some ⟨r, 0, none⟩)] w fun e w' => Ret (L.S S) r (vNode w.heap.size) e w' ∧ Ext r w w' := by
  obtain ⟨i0, hi, hz0, hz1, hz2⟩ := info_parts infoNode
  have hr0 := cx.jc.lt
  have HL := hide hL
  clear hL
  have HX0 : Hid (Ext r w w) := Ext.refl r w
  have hd0 := hD
  have HC0 := hide cx
  clear cx
  go_enter Tryz.func76, Tryz.ntmps76
  go_wp2_with fail
  refine (is_c (unhide HC0).rd wClass hb0).mono ?_
  rintro e wz ⟨rfl, rfl⟩
  go_wp2_with fail
  refine (is_c (unhide HC0).rd wFn hb1).mono ?_
  rintro e wz ⟨rfl, rfl⟩
  go_wp2_with fail
  refine Ret.call ((unhide HL).s _ _ (unhide HC0) hd0) ?_ ?_
  · intro f wz hf hx
    exact ⟨rfl, Ret.inl (hf), (unhide HX0).trans hx⟩
  intro t9 S9 v w9 hf hv cx9 hx9
  obtain ⟨kb, rfl⟩ := vNode_ptr hv
  have HP9 := hide (hf)
  have HV9 := hide hv
  clear hf hv
  go_wp2_with fail
  go_ret
  exact ⟨Ret.inr (unhide HP9) (unhide HV9) cx9, (unhide HX0).trans hx9⟩

theorem outermost_any {w : World} {r D : Nat} {S : LS} (cx : Cx w r S) (hD : S.dp = D) {L : Low} (hL : LowC r D L) :
    Calls Tryz.prog 76 #[.pointer (some ⟨r, 0, none⟩)] w fun e w' => Ret (outermostP L S) r (vNode w.heap.size) e w' ∧ Ext r w w' := by
  cases hb0 : S.is wClass with
  | true =>
    rw [show outermostP L S = (classP L S) by rw [outermostP, if_pos hb0]]
    exact outermost_any_0 cx hD hL hb0
  | false =>
    cases hb1 : S.is wFn with
    | true =>
      rw [show outermostP L S = (fnP L S) by rw [outermostP, if_neg (by rw [hb0]; decide), if_pos hb1]]
      exact outermost_any_1 cx hD hL hb0 hb1
    | false =>
      rw [show outermostP L S = (L.S S) by rw [outermostP, if_neg (by rw [hb0]; decide), if_neg (by rw [hb1]; decide)]]
      exact outermost_any_2 cx hD hL hb0 hb1

set_option maxRecDepth 100000 in
set_option maxHeartbeats 8000000 in
theorem program_any {w : World} {r D : Nat} {S : LS} (cx : Cx w r S) (hD : S.dp = D) {L : Low} (hL : LowC r D L) :
    Calls Tryz.prog 44 #[.pointer (some ⟨r, 0, none⟩)] w fun e w' => Ret (programP L S) r (vNode w.heap.size) e w' ∧ Ext r w w' := by
  obtain ⟨i0, hi, hz0, hz1, hz2⟩ := info_parts infoNode
  have hr0 := cx.jc.lt
  have HL := hide hL
  clear hL
  have HX0 : Hid (Ext r w w) := Ext.refl r w
  have hd0 := hD
  have HC0 := hide cx
  clear cx
  go_enter Tryz.func44, Tryz.ntmps44
  go_wp2_with fail
  refine (start_calls (unhide HC0) 1).mono ?_
  rintro e w1 ⟨v, rfl, ⟨rfl, hu⟩, cx1, hx⟩
  have HU1 := hide hu
  have HX1 := hide ((unhide HX0).trans hx)
  have HC1 := hide cx1
  have hd1 := hd0
  clear hu hx cx1 HC0 HX0
  go_wp2_with fail
  go_loopg [] 3002 (fun gg wr => ∃ (S' : LS) (acc : List Tree) (ks : Value) (vs : List Value), Cx wr r S' ∧ S'.dp = D ∧ Hid (Und (fun j => w.heap.size ≤ j) wr w.heap.size 1 noText noText 0 S.tl acc ks vs) ∧ Hid (Ext r w wr) ∧ 3002 ≤ gg + S'.tp ∧ acc.length ≤ S'.tp ∧ Hid ((bnd (progLoop L gg acc S') fun ks S1 => .inr (nd 1 S.tl ks, S1)) = programP L S))
  case atStart => exact ⟨S, [], _, _, unhide HC1, hd1, unhide HU1, unhide HX1, by omega, by simp, rfl⟩
  case round =>
    clear HC1 hd1 HU1 HX1
    obtain ⟨S', acc, ks, vs, cx, hdp, HU, HX0, hgg, hacc, HE⟩ := hrel
    have htp : S'.tp ≤ 3000 := Nat.le_trans cx.ok.tp (Nat.le_trans cx.ok.fit.pl cx.ok.fit.size)
    obtain ⟨f, hgf⟩ : ∃ f, gk = f + 1 := ⟨gk - 1, by omega⟩
    subst hgf
    have c3 := cx.rd.c3
    by_cases hz : S'.kd = 0
    · have HE1 : Hid (Sum.inr (nd 1 S.tl acc, S') = programP L S) := by
        have := unhide HE
        rw [progLoop, if_pos hz] at this
        exact this
      have b0 : ((S'.kd : Int) != 0) = false := by rw [bne_eq_false_iff_eq]; omega
      clear hz HE
      go_wp2_with fail
      go_ret
      exact ⟨Ret.inr (unhide HE1).symm (unhide HU).node cx, unhide HX0⟩
    · have HE : Hid ((bnd (bnd (outermostP L S') fun t S1 => progLoop L f (acc ++ [t]) S1) fun ks S1 => .inr (nd 1 S.tl ks, S1)) = programP L S) := by
        have := unhide HE
        rw [progLoop, if_neg hz] at this
        exact this
      have b0 : ((S'.kd : Int) != 0) = true := by rw [bne_iff_ne]; omega
      have hvs : vs.length ≤ 3000 := by rw [(unhide HU).len]; omega
      obtain ⟨t0, hb⟩ := (unhide HU).cells
      have d5 : wr.cell? ⟨w.heap.size, 5, none⟩ = some ks := hcell hb 5
      have g5 := hfroz hb 5
      have hent := ent_outer r
      have HC := hide cx
      clear cx hb hz
      go_wp2_with fail
      go_region_law ((first | (refine step_append_lies _ (by rfl) _ _ _ (by rfl) 0 22 i0 (.pointer none) 1 8 Tryz.underlying51 hi hz0 hz1 hz2 rfl (by decide) ks vs.length vs (by rfl) ((unhide HO2).alloc _) ⟨w2.heap.size, 0, none⟩ 1 1 [.pointer (some ⟨kb, 0, none⟩)] (by rfl) rfl (cell_one_new _ _ _) (fun u hu => by simp at hu; subst hu; rfl) (by decide) (by unfold maxLen; omega) (by omega) (Nat.zero_le _) (w2.heap.size + 1) (by simp) ?_; intro g cap w3 hown hgrow hat hlt; obtain ⟨e6, f6, HU3, HX3, HC3⟩ := kid_more rfl (unhide HU).drew (unhide HU2) hr0 (unhide HC2) (unhide HX2) (unhide HV2) _ hown hgrow hat; clear hown hgrow hat hlt) | (refine step_call rfl (by simp [Act.eval, hent, go_sem]) (Ret.call (outermost_any (unhide HC).drew hdp (unhide HL)) (fun f w2 hf hx => ⟨rfl, Ret.inl ((unhide HE).symm.trans (bnd_inl (bnd_inl hf))), ((unhide HX0).drew).trans hx⟩) ?_); intro t S1 v w2 hf hv cx1 hx; obtain ⟨kb, rfl⟩ := vNode_ptr hv; obtain ⟨e5, e5a, HO2, HU2⟩ := kid_call (unhide HU).drew hx (by omega); have HV2 := hide hv; have HC2 := hide cx1; have HX2 := hide (((unhide HX0).drew).trans hx); have HF := hide hf; clear hv cx1 hx hf)))
      all_goals
        have cx4 := unhide HC3
        have hon4 := outermostP_good (unhide HL).good _ _ _ (unhide HC).ok (unhide HF)
        have htp4 := hon4.tp
        have hd4 := hon4.same.dp.trans hdp
        have HE4 := hide ((congrArg (fun z => bnd z fun ks S1 => (.inr (nd 1 S.tl ks, S1) : Res Tree)) (bnd_inr (unhide HF))).symm.trans (unhide HE))
        clear d5 g5 hon4 HF HE HU HX0 HC e5 e5a e6 f6 c3
        go_wp2_with fail
        go_roundg f
        case measure => omega
        case rel => exact ⟨_, acc ++ [t], _, _, cx4, hd4, unhide HU3, unhide HX3, by omega, by simp; omega, unhide HE4⟩

end Go.Proofs.YtndgajlidckcdaaGreatDoor

namespace Go.Proofs.YtndgajlidckcdaaGreatDoor
open Go.RowKit
attribute [local go_sem ↓] Go.wp_at_zero Go.wp_at_succ

/-- A sign of the table. -/
def sgn (k : Nat) : ByteArray × Nat × Nat := signRows[k]?.getD (noText, 0, 0)
/-- Is it the one that is come to, of one strength? -/
def hit (lev : Nat) (S : LS) (k : Nat) : Bool := (sgn k).2.2 == lev && S.is (sgn k).1
theorem sgn_get {k : Nat} (h : k < signRows.length) : signRows[k] = sgn k := by
  unfold sgn
  rw [List.getElem?_eq_getElem h]
  rfl
theorem joiner_hit {lev : Nat} {S : LS} {k : Nat} (hk : k < 9) (h : hit lev S k = true) (hn : ∀ j, j < k → hit lev S j = false) : joinerP lev S = (sgn k).2.1 := by
  have hf : signRows.find? (fun s => s.2.2 == lev && S.is s.1) = some (sgn k) := by
    rw [List.find?_eq_some_iff_getElem]
    refine ⟨h, k, hk, sgn_get hk, fun j hj => ?_⟩
    rw [sgn_get (Nat.lt_trans hj hk)]
    have := hn j hj
    unfold hit at this
    rw [this]
    rfl
  unfold joinerP
  rw [hf]
theorem joinerK_none {lev : Nat} {S : LS} (hn : ∀ j, j < 9 → hit lev S j = false) : joinerP lev S = 0 := by
  have hf : signRows.find? (fun s => s.2.2 == lev && S.is s.1) = none := by
    rw [List.find?_eq_none]
    intro x hx
    obtain ⟨i, hi, rfl⟩ := List.getElem_of_mem hx
    rw [sgn_get hi]
    have := hn i hi
    unfold hit at this
    rw [this]
    decide
  unfold joinerP
  rw [hf]

theorem Add.drewN {w w' : World} (h : Add w w') (n : Nat) : Add w (w'.drewN n) := ⟨h.os, h.tape, h.output, h.size, h.block⟩

theorem is_q {w : World} {r : Nat} {S : LS} (h : Rd w r S) (o : Obj) (n : Nat) (m : ByteArray) {b : Bool} (hb : S.is m = b) :
    Calls Tryz.prog 108 #[.pointer (some ⟨r, 0, none⟩), .string m] ((w.alloc o).drewN n) fun e w' => e = .returned (.bool b) ∧ w' = (w.alloc o).drewN n := is_calls (show Rd ((w.alloc o).drewN n) r S from (h.alloc o).drewN n) m hb

set_option maxRecDepth 100000 in
set_option maxHeartbeats 4000000 in
theorem joiner_any {w : World} {r : Nat} {S : LS} (cx : Cx w r S) (lev : Nat) :
    Calls Tryz.prog 113 #[.pointer (some ⟨r, 0, none⟩), .int .i64 lev] w fun e w' => e = .returned (.int .i64 (joinerP lev S)) ∧ Cx w' r S ∧ Add w w' := by
  obtain ⟨tt, fr, hg⟩ := cx.tabs.signs
  have hsz : (Tryz.prog.info? 225).map (·.size) = some signCells.size := by kernel_rfl
  have hidx : ∀ (k : Nat), k < 9 → ∀ w1 : World, (Instr.index 225 (.agg signCells) (.int .i64 k)).run Tryz.prog w1 = .ok (.agg #[.string (sgn k).1, .int .i64 (sgn k).2.1, .int .i64 (sgn k).2.2]) w1 := by
    intro k hk w1
    rcases (by omega : k = 0 ∨ k = 1 ∨ k = 2 ∨ k = 3 ∨ k = 4 ∨ k = 5 ∨ k = 6 ∨ k = 7 ∨ k = 8) with rfl | rfl | rfl | rfl | rfl | rfl | rfl | rfl | rfl <;> kernel_rfl
  go_enter Tryz.func113, Tryz.ntmps113
  go_wp2_with (refine wpList_load_row rfl 225 _ rfl 5 rfl tt _ fr _ hg Tryz.underlying225 rfl hsz ?_)
  clear hsz hg
  go_loopg [8] 9 (fun g i wr => ∃ k : Nat, k ≤ 9 ∧ g = 9 - k ∧ i = .int .i64 k ∧ Hid (∀ j, j < k → hit lev S j = false) ∧ Cx wr r S ∧ Hid (Add w wr))
  case atStart => exact ⟨0, by omega, rfl, rfl, fun j hj => by omega, cx, Add.refl _⟩
  case round =>
    clear cx
    obtain ⟨k, hk, rfl, rfl, HN, cx, HA⟩ := hrel
    by_cases hk9 : k < 9
    · have hi := hidx k hk9
      have HJ := hide (fun h => joiner_hit (lev := lev) (S := S) hk9 h (unhide HN))
      have HH := hide (show hit lev S k = ((sgn k).2.2 == lev && S.is (sgn k).1) from rfl)
      clear hidx
      generalize sgn k = z at *
      obtain ⟨m, kd, st⟩ := z
      have hcx := hide cx
      clear cx
      by_cases hst : st = lev
      · subst hst
        cases hq : S.is m with
        | true =>
          go_wp2
          go_quiet ((go_at_call 108; exact Calls.quiet_of_same (is_q (unhide hcx).rd _ _ m hq)))
          go_wp2
          go_ret
          rw [unhide HJ (by rw [unhide HH, hq]; simp)]
          exact ⟨rfl, ((unhide hcx).alloc _).drewN _, ((unhide HA).alloc _).drewN _⟩
        | false =>
          go_wp2
          go_quiet ((go_at_call 108; exact Calls.quiet_of_same (is_q (unhide hcx).rd _ _ m hq)))
          go_wp2
          go_roundg (9 - (k + 1))
          case measure => omega
          case rel => exact ⟨k + 1, by omega, rfl, by go_num, fun j hj => by
            by_cases e : j = k
            · subst e; rw [unhide HH]; rw [hq]; simp
            · exact unhide HN j (by omega), ((unhide hcx).alloc _).drewN _, ((unhide HA).alloc _).drewN _⟩
      · have b0 : ((st : Int) == (lev : Int)) = false := by rw [beq_eq_false_iff_ne]; omega
        have b1 : (st == lev) = false := by rw [beq_eq_false_iff_ne]; exact hst
        go_wp2
        go_quiet (fail)
        go_wp2
        go_roundg (9 - (k + 1))
        case measure => omega
        case rel => exact ⟨k + 1, by omega, rfl, by go_num, fun j hj => by
          by_cases e : j = k
          · subst e; rw [unhide HH]; rw [b1]; rfl
          · exact unhide HN j (by omega), ((unhide hcx).alloc _).drewN _, ((unhide HA).alloc _).drewN _⟩
    · have hk9' : decide ((k : Int) < 9) = false := by simp; omega
      obtain rfl : k = 9 := by omega
      have HJ := hide (joinerK_none (lev := lev) (S := S) (unhide HN))
      clear HN hidx
      go_wp2
      go_ret
      rw [unhide HJ]
      exact ⟨rfl, cx, unhide HA⟩
end Go.Proofs.YtndgajlidckcdaaGreatDoor
