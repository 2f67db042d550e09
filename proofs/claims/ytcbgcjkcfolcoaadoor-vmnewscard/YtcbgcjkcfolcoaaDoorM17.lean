/-
  The document's numbers of values: a map, and one who comes to an instruction.
  Numbers of values, spread until nothing changes: one pass over the instructions.
  The document's check of a function.
  The document's check of an image.
-/
import Derived.Test.YtcbgcjkcfolcoaaDoorM16
import Derived.Maps.OwnSet
import Derived.Maps.OwnOps
namespace Go.Proofs.YtcbgcjkcfolcoaaDoor
open Go.RowKit Go.Maps

theorem keyInt : Keyed Tryd.prog 3 := int_keyed Tryd.underlying3
theorem zeroInt (w : World) : (zeroValue 3).run Tryd.prog w = .ok (.int .i64 0) w := by kernel_rfl
def kl (p : Nat) : Lit := .int .i64 (p : Int)
theorem kl_lit (p : Nat) : WideAt.IsKeyLit (kl p) := (show WideAt.IsKeyLit (.int .i64 (p : Int)) from trivial)
theorem kl_wf {p : Nat} (h : p ≤ 100000) : (Lit.int .i64 (p : Int)).wf = true := WalkArith.wf_i64 (by omega)
theorem kl_ne {p q : Nat} (h : p ≠ q) : kl p ≠ kl q := fun e => h (by unfold kl at e; injection e with _ e; omega)
theorem kl_key {p : Nat} (h : p ≤ 100000) : keyOf Tryd.prog 3 (.int .i64 (p : Int)) = some (kl p) := keyOf_int_mk Tryd.underlying3 (kl_wf h)

/-- A map that holds, of each number, another, or nothing. -/
def MapAt (w : World) (b : Nat) (f : Nat → Option Nat) (n : Nat) : Prop :=
  ∃ D : DataW Unit, w.ownsMap Tryd.prog 3 (plainElem Tryd.prog 3) b n D ∧ (∀ p k, f p = some k → Maps.has D (kl p) = true ∧ D.atKey (kl p) (.lit (.int .i64 0)) = .lit (.int .i64 (k : Int))) ∧ ∀ p, f p = none → Maps.has D (kl p) = false
theorem MapAt.keep {w w' : World} {b : Nat} {f : Nat → Option Nat} {n : Nat} (h : MapAt w b f n) (hb : w'.heap[b]? = w.heap[b]?) : MapAt w' b f n := by
  obtain ⟨D, ⟨es, clock, h1, h2⟩, h3⟩ := h
  exact ⟨D, ⟨es, clock, hb.trans h1, h2⟩, h3⟩
theorem MapAt.lt {w : World} {b : Nat} {f : Nat → Option Nat} {n : Nat} (h : MapAt w b f n) : b < w.heap.size := by
  obtain ⟨D, h1, _⟩ := h
  exact h1.lt
theorem MapAt.look {w : World} {b : Nat} {f : Nat → Option Nat} {n : Nat} (h : MapAt w b f n) {p : Nat} (hp : p ≤ 100000) :
    (∀ k, f p = some k → (Go.Instr.lookup 106 (.map (some b)) (.int .i64 (p : Int)) true).run Tryd.prog w = .ok (.tuple #[.int .i64 (k : Int), .bool true]) w) ∧ (f p = none → ∃ c, (Go.Instr.lookup 106 (.map (some b)) (.int .i64 (p : Int)) true).run Tryd.prog w = .ok (.tuple #[.int .i64 c, .bool false]) w) := by
  obtain ⟨D, h1, h2, h3⟩ := h
  obtain ⟨v, ps, hrun, hv⟩ := h1.look_ok keyInt Tryd.underlying106 (zeroInt w) (plainElem_int Tryd.underlying3 (by decide)) (kl_key hp)
  obtain ⟨c, rfl, hc, hwc⟩ := plainElem_int_inv Tryd.underlying3 hv
  simp only [Prod.mk.injEq] at hc
  constructor
  · intro k hk
    obtain ⟨e1, e2⟩ := h2 p k hk
    have : (c : Int) = k := by
      have := hc.1.symm.trans e2
      simpa only [DataW.lit.injEq, Lit.int.injEq, true_and] using this
    rw [hrun, e1, this]
  · intro hn
    exact ⟨c, by rw [hrun, h3 p hn]⟩
theorem MapAt.put {w : World} {b : Nat} {f : Nat → Option Nat} {n : Nat} (h : MapAt w b f n) {p k : Nat} (hp : p ≤ 100000) (hk : k ≤ 100000) (hn : n ≤ 100000) :
    ∃ w', (Go.Instr.mapUpdate 106 (.map (some b)) (.int .i64 (p : Int)) (.int .i64 (k : Int))).run Tryd.prog w = .ok () w' ∧ MapAt w' b (upd f p k) (n + 1) ∧ w.grownBy w' (some b) := by
  obtain ⟨D, h1, h2, h3⟩ := h
  have hm : Maps.IsMap D := by
    obtain ⟨_, _, _, _, _, e⟩ := h1
    exact ⟨_, e⟩
  obtain ⟨w', hrun, hown, hg⟩ := h1.update keyInt Tryd.underlying106 (by unfold maxLen; omega) (kl_key hp) (plainElem_int Tryd.underlying3 (kl_wf hk))
  refine ⟨w', hrun, ⟨_, hown, fun q j hq => ?_, fun q hq => ?_⟩, hg⟩
  · by_cases e : q = p
    · subst e
      rw [upd_same] at hq
      cases hq
      exact ⟨Maps.has_put_same hm (kl_lit q) _, Maps.atKey_put_same hm (kl_lit q) _ _⟩
    · rw [upd_other f p k e] at hq
      rw [Maps.has_put_other (kl_ne e), Maps.atKey_put_other (kl_ne e)]
      exact h2 q j hq
  · have e : q ≠ p := fun e => by rw [e, upd_same] at hq; cases hq
    rw [upd_other f p k e] at hq
    rw [Maps.has_put_other (kl_ne e)]
    exact h3 q hq
theorem MapAt.made (w : World) : MapAt (w.alloc (.map #[] 0)) w.heap.size (fun _ => none) 0 :=
  ⟨_, World.ownsMap_made w _ _ _, fun p k h => (by cases h), fun p _ => rfl⟩

/-- The closure's memory: the function, whether all is good, the numbers. -/
structure RSt (B : Nat) (w : World) (fb gb qb mb : Nat) (g : Option Addr) (N cap : Nat) (good : Bool) (f : Nat → Option Nat) : Prop where
  fc : w.cell? ⟨fb, 3, none⟩ = some (.slice g N cap)
  gc : ∃ t, w.heap[gb]? = some (.cells #[.bool good] t (0, 0))
  qc : w.cell? ⟨qb, 0, none⟩ = some (.map (some mb))
  mc : MapAt w mb f (N - unset f N)
  b1 : B ≤ gb
  b2 : B ≤ mb
  n1 : gb ≠ fb
  n2 : gb ≠ qb
  n3 : gb ≠ mb
  n4 : mb ≠ fb
  n5 : mb ≠ qb
theorem RSt.keep {B : Nat} {w w' : World} {fb gb qb mb : Nat} {g : Option Addr} {N cap : Nat} {good : Bool} {f : Nat → Option Nat} (h : RSt B w fb gb qb mb g N cap good f) (hb : Below w.heap.size w w') : RSt B w' fb gb qb mb g N cap good f := by
  obtain ⟨h1, ⟨t, h2⟩, h3, h4, h5, h6, n1, n2, n3, n4, n5⟩ := h
  exact ⟨cellk hb h1 (cell_lt h1), ⟨t, (hb.block gb (hlt h2)).trans h2⟩, cellk hb h3 (cell_lt h3), h4.keep (hb.block mb h4.lt), h5, h6, n1, n2, n3, n4, n5⟩
theorem RSt.bad {B : Nat} {w : World} {fb gb qb mb : Nat} {g : Option Addr} {N cap : Nat} {good : Bool} {f : Nat → Option Nat} (h : RSt B w fb gb qb mb g N cap good f) : RSt B (w.setCell ⟨gb, 0, none⟩ (.bool false)) fb gb qb mb g N cap false f := by
  obtain ⟨h1, ⟨t, h2⟩, h3, h4, h5, h6, n1, n2, n3, n4, n5⟩ := h
  exact ⟨(World.cell?_of_block (hother _ (Ne.symm n1))).trans h1, ⟨t, by rw [hset h2]; rfl⟩, (World.cell?_of_block (hother _ (Ne.symm n2))).trans h3, h4.keep (hother _ (Ne.symm n3)), h5, h6, n1, n2, n3, n4, n5⟩
theorem RSt.put {B : Nat} {w w' : World} {fb gb qb mb : Nat} {g : Option Addr} {N cap : Nat} {good : Bool} {f : Nat → Option Nat} (h : RSt B w fb gb qb mb g N cap good f) {p k : Nat} (hp : f p = none) (hN : p < N) (hm : MapAt w' mb (upd f p k) (N - unset f N + 1)) (hg : w.grownBy w' (some mb)) : RSt B w' fb gb qb mb g N cap good (upd f p k) := by
  obtain ⟨h1, ⟨t, h2⟩, h3, h4, h5, h6, n1, n2, n3, n4, n5⟩ := h
  refine ⟨(hg.cell_far _ (cell_lt h1) (fun e => n4 (Option.some.inj e).symm)).trans h1, ⟨t, (hg.block gb (hlt h2) (fun e => n3 (Option.some.inj e))).trans h2⟩, (hg.cell_far _ (cell_lt h3) (fun e => n5 (Option.some.inj e).symm)).trans h3, ?_, h5, h6, n1, n2, n3, n4, n5⟩
  have e := unset_upd (f := f) (n := k) hp N hN
  have e2 := unset_le f N
  rw [show N - unset (upd f p k) N = N - unset f N + 1 by omega]
  exact hm

def RCome (B : Nat) (w : World) (fb gb qb mb : Nat) (g : Option Addr) (N cap : Nat) (good : Bool) (f : Nat → Option Nat) (p n : Nat) (e : Ending) (w' : World) : Prop :=
  Below B w w' ∧
  ((comeP N f p n = none ∧ e = .returned (.bool false) ∧ RSt B w' fb gb qb mb g N cap false f) ∨
   (comeP N f p n = some (f, false) ∧ e = .returned (.bool false) ∧ RSt B w' fb gb qb mb g N cap good f) ∨
   (comeP N f p n = some (upd f p n, true) ∧ f p = none ∧ e = .returned (.bool true) ∧ RSt B w' fb gb qb mb g N cap good (upd f p n)))

set_option maxRecDepth 100000 in
set_option maxHeartbeats 4000000 in
theorem rcome_any {B : Nat} {w : World} {fb gb qb mb : Nat} {g : Option Addr} {N cap : Nat} {good : Bool} {f : Nat → Option Nat} (h : RSt B w fb gb qb mb g N cap good f) (hB : B ≤ w.heap.size) (hN : N ≤ 5000) (p n : Nat) (hp : p ≤ 5000) (hn : n ≤ 1000) :
    Calls Tryd.prog 31 #[.int .i64 p, .int .i64 n, .pointer (some ⟨fb, 0, none⟩), .pointer (some ⟨gb, 0, none⟩), .pointer (some ⟨qb, 0, none⟩)] w fun e w' => RCome B w fb gb qb mb g N cap good f p n e w' := by
  have fc := h.fc
  have qc := h.qc
  obtain ⟨t, hg⟩ := h.gc
  have gc : w.cell? ⟨gb, 0, none⟩ = some (.bool good) := hcell hg 0
  have gf : w.frozen? ⟨gb, 0, none⟩ = false := hfroz hg 0
  have HBAD := hide h.bad
  have HGB := hide h.b1
  by_cases h1 : N ≤ p ∨ 200 < n
  · have HC : Hid (comeP N f p n = none) := by
      show comeP N f p n = none
      unfold comeP; rw [if_pos h1]
    clear h hg
    by_cases h2 : N ≤ p
    · have d1 : decide ((N : Int) ≤ (p : Int)) = true := by simp; omega
      clear h1
      go_enter Tryd.func31, Tryd.ntmps31
      go_wp2_with fail
      go_ret
      exact ⟨(Below.refl _ _).setCell (p := ⟨gb, 0, none⟩) (unhide HGB) _, Or.inl ⟨unhide HC, rfl, unhide HBAD⟩⟩
    · have d1 : decide ((N : Int) ≤ (p : Int)) = false := by simp; omega
      have d2 : decide ((200 : Int) < (n : Int)) = true := by simp; omega
      clear h1
      go_enter Tryd.func31, Tryd.ntmps31
      go_wp2_with fail
      go_ret
      exact ⟨(Below.refl _ _).setCell (p := ⟨gb, 0, none⟩) (unhide HGB) _, Or.inl ⟨unhide HC, rfl, unhide HBAD⟩⟩
  · have hpN : p < N := by omega
    have d1 : decide ((N : Int) ≤ (p : Int)) = false := by simp; omega
    have d2 : decide ((200 : Int) < (n : Int)) = false := by simp; omega
    obtain ⟨l1, l2⟩ := h.mc.look (p := p) (by omega)
    cases hf : f p with
    | some k =>
      have hrun := l1 k hf
      have HH := hide h
      have HC : Hid (comeP N f p n = if k = n then some (f, false) else none) := by
        show comeP N f p n = _
        unfold comeP; rw [if_neg h1, hf]
      clear h hg h1 hf l1 l2
      by_cases hk : k = n
      · have b3 : ((k : Int) != (n : Int)) = false := by rw [bne_eq_false_iff_eq]; omega
        have HK := hide hk
        clear hk
        go_enter Tryd.func31, Tryd.ntmps31
        go_wp2_with fail
        go_ret
        exact ⟨Below.refl _ _, Or.inr (Or.inl ⟨by rw [unhide HC, if_pos (unhide HK)], rfl, unhide HH⟩)⟩
      · have b3 : ((k : Int) != (n : Int)) = true := by rw [bne_iff_ne]; omega
        have HK := hide hk
        clear hk
        go_enter Tryd.func31, Tryd.ntmps31
        go_wp2_with fail
        go_ret
        exact ⟨(Below.refl _ _).setCell (p := ⟨gb, 0, none⟩) (unhide HGB) _, Or.inl ⟨by rw [unhide HC, if_neg (unhide HK)], rfl, unhide HBAD⟩⟩
    | none =>
      obtain ⟨c, hrun⟩ := l2 hf
      obtain ⟨w', hrun2, hm, hgr⟩ := h.mc.put (p := p) (k := n) (by omega) (by omega) (by omega)
      have HP := hide (h.put hf hpN hm hgr)
      have HMB := hide h.b2
      have HGR := hide hgr
      have HF := hide hf
      have HC : Hid (comeP N f p n = some (upd f p n, true)) := by
        show comeP N f p n = _
        unfold comeP; rw [if_neg h1, hf]
      clear h hg h1 hf l1 l2 hm hgr
      go_enter Tryd.func31, Tryd.ntmps31
      go_wp2_with fail
      go_ret
      exact ⟨(Below.refl _ _).grown (unhide HGR) hB (fun k hk => by cases hk; exact unhide HMB), Or.inr (Or.inr ⟨unhide HC, unhide HF, rfl, unhide HP⟩)⟩
end Go.Proofs.YtcbgcjkcfolcoaaDoor

namespace Go.Proofs.YtcbgcjkcfolcoaaDoor
open Go.RowKit

structure Pass (c : List PI) (hs : List PH) (U p : Nat) (f : Nat → Option Nat) (good again : Bool) (T : List (Nat × Nat)) : Prop where
  known : Known c hs f
  bad : good = false → BadWays c hs
  zero : f 0 = some 0
  hand : good = true → ∀ h ∈ hs, f h.tg.toNat = some 1
  le : unset f c.length ≤ U
  lt : again = true → unset f c.length < U
  done : again = false → good = true → (∀ q, q < p → Done c f q) ∧ ∀ x ∈ T, f x.1 = some x.2

/-- What a coming makes of it. -/
theorem Pass.come {c : List PI} {hs : List PH} {U p : Nat} {f : Nat → Option Nat} {good again : Bool} {T : List (Nat × Nat)} (h : Pass c hs U p f good again T) {q k : Nat} (hr : Reach c hs q k) :
    (comeP c.length f q k = none → Pass c hs U p f false again ((q, k) :: T)) ∧ (comeP c.length f q k = some (f, false) → Pass c hs U p f good again ((q, k) :: T)) ∧ (comeP c.length f q k = some (upd f q k, true) → f q = none → Pass c hs U p (upd f q k) good true ((q, k) :: T) ∧ Mono f (upd f q k)) := by
  have hk := h.known.come hr
  refine ⟨fun e => ?_, fun e => ?_, fun e hn => ?_⟩
  · have hbad : BadWays c hs := by
      rcases hk with ⟨_, k⟩ | ⟨k, _⟩ | ⟨k, _⟩
      · exact k
      · rw [e] at k; cases k
      · rw [e] at k; cases k
    exact ⟨h.known, fun _ => hbad, h.zero, fun e => (by cases e), h.le, h.lt, fun _ e => (by cases e)⟩
  · have hq : f q = some k := by
      rcases hk with ⟨k, _⟩ | ⟨_, k⟩ | ⟨k, _⟩
      · rw [e] at k; cases k
      · exact k
      · rw [e] at k
        have := congrArg (fun z => z.map (·.2)) k
        simp at this
    refine ⟨h.known, h.bad, h.zero, h.hand, h.le, h.lt, fun a b => ⟨(h.done a b).1, fun x hx => ?_⟩⟩
    rcases List.mem_cons.1 hx with rfl | hx
    · exact hq
    · exact (h.done a b).2 x hx
  · obtain ⟨hl, hkn⟩ : q < c.length ∧ Known c hs (upd f q k) := by
      rcases hk with ⟨k, _⟩ | ⟨k, _⟩ | ⟨_, _, a, b⟩
      · rw [e] at k; cases k
      · rw [e] at k
        have := congrArg (fun z => z.map (·.2)) k
        simp at this
      · exact ⟨a, b⟩
    have hm := Mono.upd (n := k) hn
    have hu := unset_upd (n := k) hn c.length hl
    have := h.le
    exact ⟨⟨hkn, h.bad, hm _ _ h.zero, fun a x hx => hm _ _ (h.hand a x hx), by omega, fun _ => by omega, fun e => (by cases e)⟩, hm⟩

/-- An instruction to which nobody came. -/
theorem Pass.skip {c : List PI} {hs : List PH} {U p : Nat} {f : Nat → Option Nat} {good again : Bool} {T : List (Nat × Nat)} (h : Pass c hs U p f good again T) (hp : f p = none ∨ good = false) : Pass c hs U (p + 1) f good again [] := by
  refine ⟨h.known, h.bad, h.zero, h.hand, h.le, h.lt, fun a b => ⟨fun q hq => ?_, fun x hx => (by cases hx)⟩⟩
  by_cases e : q = p
  · subst e
    rcases hp with hp | hp
    · intro n i hn
      rw [hp] at hn
      cases hn
    · rw [b] at hp; cases hp
  · exact (h.done a b).1 q (by omega)
/-- One that is done. -/
theorem Pass.next {c : List PI} {hs : List PH} {U p n : Nat} {i : PI} {f : Nat → Option Nat} {good again : Bool} {T : List (Nat × Nat)} (h : Pass c hs U p f good again T) (hp : f p = some n) (hi : c[p]? = some i) (ht : takes i ≤ n) (hT : good = true → ∀ x ∈ nexts i p n, x ∈ T) : Pass c hs U (p + 1) f good again [] := by
  refine ⟨h.known, h.bad, h.zero, h.hand, h.le, h.lt, fun a b => ⟨fun q hq => ?_, fun x hx => (by cases hx)⟩⟩
  by_cases e : q = p
  · subst e
    intro m j hm hj
    rw [hp] at hm
    rw [hi] at hj
    cases hm
    cases hj
    exact ⟨ht, fun q k hq => (h.done a b).2 (q, k) (hT b _ hq)⟩
  · exact (h.done a b).1 q (by omega)
/-- A pass in which nothing changed. -/
theorem Pass.good {c : List PI} {hs : List PH} {U : Nat} {f : Nat → Option Nat} (h : Pass c hs U c.length f true false []) : ¬ BadWays c hs :=
  good_of_shut f h.zero (h.hand rfl) h.known.bound (fun p n i h1 h2 => (h.done rfl rfl).1 p (h.known.bound p n h1).1 n i h1 h2)
/-- The next pass begins. -/
theorem Pass.again {c : List PI} {hs : List PH} {U p : Nat} {f : Nat → Option Nat} {good again : Bool} {T : List (Nat × Nat)} (h : Pass c hs U p f good again T) : Pass c hs (unset f c.length) 0 f good false [] :=
  ⟨h.known, h.bad, h.zero, h.hand, Nat.le_refl _, fun e => (by cases e), fun _ _ => ⟨fun q hq => absurd hq (Nat.not_lt_zero q), fun x hx => (by cases hx)⟩⟩

/-- The same for handlers, one by one: ahead of the first pass. -/
structure Ahead (c : List PI) (hs : List PH) (k : Nat) (f : Nat → Option Nat) (good : Bool) : Prop where
  known : Known c hs f
  bad : good = false → BadWays c hs
  zero : f 0 = some 0
  hand : good = true → ∀ (j : Nat) (h : PH), j < k → hs[j]? = some h → f h.tg.toNat = some 1
theorem Ahead.start {c : List PI} {hs : List PH} (hl : 1 ≤ c.length) : Ahead c hs 0 (upd (fun _ => none) 0 0) true := by
  refine ⟨⟨fun p n hp => ?_, fun p n hp => ?_⟩, fun e => (by cases e), upd_same _ _ _, fun _ j h hj => absurd hj (Nat.not_lt_zero j)⟩
  · by_cases e : p = 0
    · subst e
      rw [upd_same] at hp
      cases hp
      exact Reach.start c hs
    · rw [upd_other _ _ _ e] at hp
      cases hp
  · by_cases e : p = 0
    · subst e
      rw [upd_same] at hp
      cases hp
      omega
    · rw [upd_other _ _ _ e] at hp
      cases hp
theorem Ahead.come {c : List PI} {hs : List PH} {k : Nat} {f : Nat → Option Nat} {good : Bool} (h : Ahead c hs k f good) {x : PH} (hx : hs[k]? = some x) :
    (comeP c.length f x.tg.toNat 1 = none → Ahead c hs (k + 1) f false) ∧ (comeP c.length f x.tg.toNat 1 = some (f, false) → Ahead c hs (k + 1) f good) ∧ (comeP c.length f x.tg.toNat 1 = some (upd f x.tg.toNat 1, true) → f x.tg.toNat = none → Ahead c hs (k + 1) (upd f x.tg.toNat 1) good) := by
  have hr : Reach c hs x.tg.toNat 1 := Reach.hand (List.mem_of_getElem? hx)
  have hk := h.known.come hr
  have step : ∀ {f' : Nat → Option Nat} {g : Bool}, Mono f f' → (g = true → good = true) → f' x.tg.toNat = some 1 → g = true → ∀ (j : Nat) (y : PH), j < k + 1 → hs[j]? = some y → f' y.tg.toNat = some 1 := by
    intro f' g hm hg hq b j y hj hy
    by_cases e : j = k
    · subst e
      rw [hx] at hy
      cases hy
      exact hq
    · exact hm _ _ (h.hand (hg b) j y (by omega) hy)
  refine ⟨fun e => ?_, fun e => ?_, fun e hn => ?_⟩
  · have hbad : BadWays c hs := by
      rcases hk with ⟨_, k⟩ | ⟨k, _⟩ | ⟨k, _⟩
      · exact k
      · rw [e] at k; cases k
      · rw [e] at k; cases k
    exact ⟨h.known, fun _ => hbad, h.zero, fun e => (by cases e)⟩
  · have hq : f x.tg.toNat = some 1 := by
      rcases hk with ⟨k, _⟩ | ⟨_, k⟩ | ⟨k, _⟩
      · rw [e] at k; cases k
      · exact k
      · rw [e] at k
        have := congrArg (fun z => z.map (·.2)) k
        simp at this
    exact ⟨h.known, h.bad, h.zero, step (Mono.refl f) id hq⟩
  · obtain ⟨hl, hkn⟩ : x.tg.toNat < c.length ∧ Known c hs (upd f x.tg.toNat 1) := by
      rcases hk with ⟨k, _⟩ | ⟨k, _⟩ | ⟨_, _, a, b⟩
      · rw [e] at k; cases k
      · rw [e] at k
        have := congrArg (fun z => z.map (·.2)) k
        simp at this
      · exact ⟨a, b⟩
    have hm := Mono.upd (n := 1) hn
    exact ⟨hkn, h.bad, hm _ _ h.zero, step hm id (upd_same _ _ _)⟩
theorem Ahead.pass {c : List PI} {hs : List PH} {f : Nat → Option Nat} {good : Bool} (h : Ahead c hs hs.length f good) (U p : Nat) (hU : unset f c.length < U) : Pass c hs U p f good true [] :=
  ⟨h.known, h.bad, h.zero, fun a x hx => by
    obtain ⟨j, hj, rfl⟩ := List.getElem_of_mem hx
    exact h.hand a j _ hj (List.getElem?_eq_getElem hj), Nat.le_of_lt hU, fun _ => hU, fun e => (by cases e)⟩
end Go.Proofs.YtcbgcjkcfolcoaaDoor

namespace Go.Proofs.YtcbgcjkcfolcoaaDoor
open Go.RowKit

/-- What is asked of memory when a function is checked. -/
structure FunAsk (w : World) (b : Nat) (m : PM) (vf vc vk : Value) (f : PF) (g3 g4 g5 : Option Addr) (p3 p4 p5 : Nat) : Prop where
  img : ImgAt w b m vf vc vk
  h1 : m.funcs.length ≤ 250
  h2 : m.consts.length ≤ 1000
  h3 : m.classes.length ≤ 250
  code : InstrsAt w (.slice g3 f.code.length p3) f.code
  hands : HandsAt w (.slice g4 f.hands.length p4) f.hands
  vars : VarsAt w (.slice g5 f.vars.length p5) f.vars
  inb : InB f
def RFnPost (m : PM) (f : PF) (w : World) (e : Ending) (w' : World) : Prop := Below w.heap.size w w' ∧ ∃ n, e = .returned (.int .i64 n) ∧ FnErr m f n
theorem RFnPost.mk {m : PM} {f : PF} {w w' : World} {n : Int} (h : Below w.heap.size w w') (hn : FnErr m f n) : RFnPost m f w (.returned (.int .i64 n)) w' := ⟨h, n, rfl, hn⟩

def boxF (f : PF) (g3 g4 g5 : Option Addr) (p3 p4 p5 : Nat) : Array Value := #[.string f.name, .int .i64 f.params, .int .i64 f.slots, .slice g3 f.code.length p3, .slice g4 f.hands.length p4, .slice g5 f.vars.length p5]
theorem len_form {w : World} {g : Option Addr} {n n' p k b : Nat} {R : Nat → Nat → Value} (h : SlAt w (.slice g n p) n' k b R) : n = n' ∧ n * b ≤ 140737488355328 ∧ RowsAt w g n k R := by
  obtain ⟨g', cap, h1, h2, h3⟩ := h
  cases h1
  exact ⟨rfl, h2, h3⟩

set_option maxRecDepth 100000 in
set_option maxHeartbeats 4000000 in
theorem rfun_size {w : World} {b : Nat} {m : PM} {vf vc vk : Value} {f : PF} {g3 g4 g5 : Option Addr} {p3 p4 p5 : Nat} (_h : FunAsk w b m vf vc vk f g3 g4 g5 p3 p4 p5) (hs : sizeOk f = false) :
    Calls Tryd.prog 18 #[.pointer (some ⟨b, 0, none⟩), .agg #[.string f.name, .int .i64 f.params, .int .i64 f.slots, .slice g3 f.code.length p3, .slice g4 f.hands.length p4, .slice g5 f.vars.length p5]] w fun e w' => RFnPost m f w e w' := by
  have HF : Hid (FnErr m f 4) := Or.inl ⟨hs, rfl⟩
  have hs2 : (inB f.code.length 1 5000 && inB f.params 0 8 && inB f.slots f.params 200) = false := hs
  clear hs _h
  cases q1 : inB f.code.length 1 5000 with
  | false =>
    clear hs2
    go_enter Tryd.func18, Tryd.ntmps18
    go_wp2_with fail
    refine (within_is q1 _).mono ?_
    rintro e wa ⟨rfl, rfl⟩
    go_wp2_with fail
    go_ret
    exact RFnPost.mk ((Below.refl _ _).alloc (Nat.le_refl _) _) (unhide HF)
  | true =>
    cases q2 : inB f.params 0 8 with
    | false =>
      clear hs2
      go_enter Tryd.func18, Tryd.ntmps18
      go_wp2_with fail
      refine (within_is q1 _).mono ?_
      rintro e wa ⟨rfl, rfl⟩
      go_wp2_with fail
      refine (within_is q2 _).mono ?_
      rintro e wa ⟨rfl, rfl⟩
      go_wp2_with fail
      go_ret
      exact RFnPost.mk ((Below.refl _ _).alloc (Nat.le_refl _) _) (unhide HF)
    | true =>
      have q3 : inB f.slots f.params 200 = false := by rw [q1, q2] at hs2; exact hs2
      clear hs2
      go_enter Tryd.func18, Tryd.ntmps18
      go_wp2_with fail
      refine (within_is q1 _).mono ?_
      rintro e wa ⟨rfl, rfl⟩
      go_wp2_with fail
      refine (within_is q2 _).mono ?_
      rintro e wa ⟨rfl, rfl⟩
      go_wp2_with fail
      refine (within_is q3 _).mono ?_
      rintro e wa ⟨rfl, rfl⟩
      go_wp2_with fail
      go_ret
      exact RFnPost.mk ((Below.refl _ _).alloc (Nat.le_refl _) _) (unhide HF)
end Go.Proofs.YtcbgcjkcfolcoaaDoor

namespace Go.Proofs.YtcbgcjkcfolcoaaDoor
open Go.RowKit

def IPost (m : PM) (w : World) (e : Ending) (w' : World) : Prop := Below w.heap.size w w' ∧ ∃ n p, e = .returned (.agg #[.int .i64 n, .int .i64 p]) ∧ Verdict m n p
theorem IPost.mk {m : PM} {w w' : World} {n p : Int} (hb : Below w.heap.size w w') (hv : Verdict m n p) : IPost m w (.returned (.agg #[.int .i64 n, .int .i64 p])) w' := ⟨hb, n, p, rfl, hv⟩

theorem roundP_succ (A : List Int) (i : Int) (g n : Nat) (k : Int) : roundP A i (g + 1) n k = if belowB k A.length then (if k = i ∨ A.length < n then true else roundP A i g (n + 1) (oneUp A k)) else false := rfl

/-- The result's block. -/
structure Rb (w0 : World) (rb : Nat) : Prop where
  blk : ∃ t, w0.heap[rb]? = some (.cells #[.int .i64 0, .int .i64 0] t (0, 0))
theorem Rb.cells {w0 wr : World} {rb : Nat} (h : Rb w0 rb) (hb : Below w0.heap.size w0 wr) : wr.cell? ⟨rb, 0, none⟩ = some (.int .i64 0) ∧ wr.cell? ⟨rb, 1, none⟩ = some (.int .i64 0) ∧ wr.frozen? ⟨rb, 0, none⟩ = false ∧ wr.frozen? ⟨rb, 1, none⟩ = false ∧ rb < wr.heap.size := by
  obtain ⟨t, h⟩ := h
  have h2 := (hb.block rb (hlt h)).trans h
  exact ⟨hcell h2 0, hcell h2 1, hfroz h2 0, hfroz h2 1, hlt h2⟩

theorem two_set {w1 : World} {rb : Nat} {a b : Value} {t : TypeId} (h : w1.heap[rb]? = some (.cells #[a, b] t (0, 0))) (x y : Value) : ((w1.setCell ⟨rb, 0, none⟩ x).setCell ⟨rb, 1, none⟩ y).cell? ⟨rb, 0, none⟩ = some x ∧ ((w1.setCell ⟨rb, 0, none⟩ x).setCell ⟨rb, 1, none⟩ y).cell? ⟨rb, 1, none⟩ = some y := by
  have h1 := hset h 0 x
  have h2 := hset h1 1 y
  exact ⟨hcell h2 0, hcell h2 1⟩
theorem below_two {B : Nat} {w w1 : World} {rb : Nat} (hb : Below B w w1) (hr : B ≤ rb) (x y : Value) : Below B w ((w1.setCell ⟨rb, 0, none⟩ x).setCell ⟨rb, 1, none⟩ y) := (hb.setCell (p := ⟨rb, 0, none⟩) hr x).setCell (p := ⟨rb, 1, none⟩) hr y

set_option maxRecDepth 100000 in
set_option maxHeartbeats 4000000 in
theorem img_limit {w : World} {b : Nat} {m : PM} {vf vc vk : Value} (h : ImgAt w b m vf vc vk) (hl : limitOk m = false) :
    Calls Tryd.prog 6 #[.pointer (some ⟨b, 0, none⟩)] w fun e w' => IPost m w e w' := by
  have hd : (inB m.funcs.length 1 250 && decide (m.consts.length ≤ 1000) && decide (m.classes.length ≤ 250)) = false := hl
  have HV : Hid (Verdict m 4 (-1)) := Or.inl ⟨hl, rfl, rfl⟩
  have c0 := cell_al h.c0
  have c1 := cell_al h.c1
  have c2 := cell_al h.c2
  obtain ⟨_, ⟨gf, capf, rfl, _, _⟩, _⟩ := h.img.funcs
  obtain ⟨gc, capc, rfl, _, _⟩ := h.img.consts
  obtain ⟨_, ⟨gk, capk, rfl, _, _⟩, _⟩ := h.img.classes
  clear h hl
  generalize m.funcs.length = F at *
  generalize m.consts.length = K at *
  generalize m.classes.length = L at *
  cases q1 : inB F 1 250 with
  | false =>
    clear hd
    go_enter Tryd.func6, Tryd.ntmps6
    go_wp2_with fail
    refine (within_is q1 _).mono ?_
    rintro e wa ⟨rfl, rfl⟩
    go_wp2_with fail
    refine (bare_any 4 _).mono ?_
    rintro e w1 ⟨rfl, hb1⟩
    have hk := (hb1.block w.heap.size (by simp)).trans (hnew w _)
    have k0 : w1.cell? ⟨w.heap.size, 0, none⟩ = some (.int .i64 0) := hcell hk 0
    have k1 : w1.cell? ⟨w.heap.size, 1, none⟩ = some (.int .i64 0) := hcell hk 1
    have f0 := hfroz hk 0
    have f1 := hfroz hk 1
    obtain ⟨z0, z1⟩ := two_set hk (.int .i64 4) (.int .i64 (-1))
    have HB := hide (((Below.refl w.heap.size w).alloc (Nat.le_refl _) _).trans (hb1.mono (by simp)))
    clear hb1 hk
    go_wp2_with fail
    exact bodyPost_ret (v := .agg #[.int .i64 4, .int .i64 (-1)]) (by simp [results, Tryd.results6, go_sem, z0, z1]) rfl (IPost.mk (below_two (unhide HB) (Nat.le_refl _) _ _) (unhide HV))
  | true =>
    by_cases h2 : 1000 < K
    · have b2 : decide ((1000 : Int) < (K : Int)) = true := by simp; omega
      clear hd
      go_enter Tryd.func6, Tryd.ntmps6
      go_wp2_with fail
      refine (within_is q1 _).mono ?_
      rintro e wa ⟨rfl, rfl⟩
      go_wp2_with fail
      refine (bare_any 4 _).mono ?_
      rintro e w1 ⟨rfl, hb1⟩
      have hk := (hb1.block w.heap.size (by simp)).trans (hnew w _)
      have k0 : w1.cell? ⟨w.heap.size, 0, none⟩ = some (.int .i64 0) := hcell hk 0
      have k1 : w1.cell? ⟨w.heap.size, 1, none⟩ = some (.int .i64 0) := hcell hk 1
      have f0 := hfroz hk 0
      have f1 := hfroz hk 1
      obtain ⟨z0, z1⟩ := two_set hk (.int .i64 4) (.int .i64 (-1))
      have HB := hide (((Below.refl w.heap.size w).alloc (Nat.le_refl _) _).trans (hb1.mono (by simp)))
      clear hb1 hk
      go_wp2_with fail
      exact bodyPost_ret (v := .agg #[.int .i64 4, .int .i64 (-1)]) (by simp [results, Tryd.results6, go_sem, z0, z1]) rfl (IPost.mk (below_two (unhide HB) (Nat.le_refl _) _ _) (unhide HV))
    · have b2 : decide ((1000 : Int) < (K : Int)) = false := by simp; omega
      have b3 : decide ((250 : Int) < (L : Int)) = true := by
        rw [q1] at hd
        simp at hd
        simp
        omega
      clear hd
      go_enter Tryd.func6, Tryd.ntmps6
      go_wp2_with fail
      refine (within_is q1 _).mono ?_
      rintro e wa ⟨rfl, rfl⟩
      go_wp2_with fail
      refine (bare_any 4 _).mono ?_
      rintro e w1 ⟨rfl, hb1⟩
      have hk := (hb1.block w.heap.size (by simp)).trans (hnew w _)
      have k0 : w1.cell? ⟨w.heap.size, 0, none⟩ = some (.int .i64 0) := hcell hk 0
      have k1 : w1.cell? ⟨w.heap.size, 1, none⟩ = some (.int .i64 0) := hcell hk 1
      have f0 := hfroz hk 0
      have f1 := hfroz hk 1
      obtain ⟨z0, z1⟩ := two_set hk (.int .i64 4) (.int .i64 (-1))
      have HB := hide (((Below.refl w.heap.size w).alloc (Nat.le_refl _) _).trans (hb1.mono (by simp)))
      clear hb1 hk
      go_wp2_with fail
      exact bodyPost_ret (v := .agg #[.int .i64 4, .int .i64 (-1)]) (by simp [results, Tryd.results6, go_sem, z0, z1]) rfl (IPost.mk (below_two (unhide HB) (Nat.le_refl _) _ _) (unhide HV))
end Go.Proofs.YtcbgcjkcfolcoaaDoor
