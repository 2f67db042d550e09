/-
  Numbers of values, spread until nothing changes: one pass over the instructions.
-/
import Derived.Test.YtpfhnmgfcmkidaaDoorCRMap
namespace Go.Proofs.YtpfhnmgfcmkidaaDoor
open Go.RowKit

structure Pass (c : List PI) (hs : List PH) (U p : Nat) (f : Nat → Option Nat) (good again : Bool) (T : List (Nat × Nat)) : Prop where
  known : Known c hs f
  bad : good = false → BadWays c hs
  zero : f 0 = some 0
  hand : good = true → ∀ h ∈ hs, f h.tg.toNat = some 1
  le : unset f c.length ≤ U
  lt : again = true → unset f c.length < U
  done : again = false → good = true → (∀ q, q < p → Done c f q) ∧ ∀ x ∈ T, f x.1 = some x.2

/-- What a coming makes of it. -/
theorem Pass.come {c : List PI} {hs : List PH} {U p : Nat} {f : Nat → Option Nat} {good again : Bool} {T : List (Nat × Nat)} (h : Pass c hs U p f good again T) {q k : Nat} (hr : Reach c hs q k) :
    (comeP c.length f q k = none → Pass c hs U p f false again ((q, k) :: T)) ∧ (comeP c.length f q k = some (f, false) → Pass c hs U p f good again ((q, k) :: T)) ∧ (comeP c.length f q k = some (upd f q k, true) → f q = none → Pass c hs U p (upd f q k) good true ((q, k) :: T) ∧ Mono f (upd f q k)) := by
  have hk := h.known.come hr
  refine ⟨fun e => ?_, fun e => ?_, fun e hn => ?_⟩
  · have hbad : BadWays c hs := by
      rcases hk with ⟨_, k⟩ | ⟨k, _⟩ | ⟨k, _⟩
      · exact k
      · rw [e] at k; cases k
      · rw [e] at k; cases k
    exact ⟨h.known, fun _ => hbad, h.zero, fun e => (by cases e), h.le, h.lt, fun _ e => (by cases e)⟩
  · have hq : f q = some k := by
      rcases hk with ⟨k, _⟩ | ⟨_, k⟩ | ⟨k, _⟩
      · rw [e] at k; cases k
      · exact k
      · rw [e] at k
        have := congrArg (fun z => z.map (·.2)) k
        simp at this
    refine ⟨h.known, h.bad, h.zero, h.hand, h.le, h.lt, fun a b => ⟨(h.done a b).1, fun x hx => ?_⟩⟩
    rcases List.mem_cons.1 hx with rfl | hx
    · exact hq
    · exact (h.done a b).2 x hx
  · obtain ⟨hl, hkn⟩ : q < c.length ∧ Known c hs (upd f q k) := by
      rcases hk with ⟨k, _⟩ | ⟨k, _⟩ | ⟨_, _, a, b⟩
      · rw [e] at k; cases k
      · rw [e] at k
        have := congrArg (fun z => z.map (·.2)) k
        simp at this
      · exact ⟨a, b⟩
    have hm := Mono.upd (n := k) hn
    have hu := unset_upd (n := k) hn c.length hl
    have := h.le
    exact ⟨⟨hkn, h.bad, hm _ _ h.zero, fun a x hx => hm _ _ (h.hand a x hx), by omega, fun _ => by omega, fun e => (by cases e)⟩, hm⟩

/-- An instruction to which nobody came. -/
theorem Pass.skip {c : List PI} {hs : List PH} {U p : Nat} {f : Nat → Option Nat} {good again : Bool} {T : List (Nat × Nat)} (h : Pass c hs U p f good again T) (hp : f p = none ∨ good = false) : Pass c hs U (p + 1) f good again [] := by
  refine ⟨h.known, h.bad, h.zero, h.hand, h.le, h.lt, fun a b => ⟨fun q hq => ?_, fun x hx => (by cases hx)⟩⟩
  by_cases e : q = p
  · subst e
    rcases hp with hp | hp
    · intro n i hn
      rw [hp] at hn
      cases hn
    · rw [b] at hp; cases hp
  · exact (h.done a b).1 q (by omega)
/-- One that is done. -/
theorem Pass.next {c : List PI} {hs : List PH} {U p n : Nat} {i : PI} {f : Nat → Option Nat} {good again : Bool} {T : List (Nat × Nat)} (h : Pass c hs U p f good again T) (hp : f p = some n) (hi : c[p]? = some i) (ht : takes i ≤ n) (hT : good = true → ∀ x ∈ nexts i p n, x ∈ T) : Pass c hs U (p + 1) f good again [] := by
  refine ⟨h.known, h.bad, h.zero, h.hand, h.le, h.lt, fun a b => ⟨fun q hq => ?_, fun x hx => (by cases hx)⟩⟩
  by_cases e : q = p
  · subst e
    intro m j hm hj
    rw [hp] at hm
    rw [hi] at hj
    cases hm
    cases hj
    exact ⟨ht, fun q k hq => (h.done a b).2 (q, k) (hT b _ hq)⟩
  · exact (h.done a b).1 q (by omega)
/-- A pass in which nothing changed. -/
theorem Pass.good {c : List PI} {hs : List PH} {U : Nat} {f : Nat → Option Nat} (h : Pass c hs U c.length f true false []) : ¬ BadWays c hs :=
  good_of_shut f h.zero (h.hand rfl) h.known.bound (fun p n i h1 h2 => (h.done rfl rfl).1 p (h.known.bound p n h1).1 n i h1 h2)
/-- The next pass begins. -/
theorem Pass.again {c : List PI} {hs : List PH} {U p : Nat} {f : Nat → Option Nat} {good again : Bool} {T : List (Nat × Nat)} (h : Pass c hs U p f good again T) : Pass c hs (unset f c.length) 0 f good false [] :=
  ⟨h.known, h.bad, h.zero, h.hand, Nat.le_refl _, fun e => (by cases e), fun _ _ => ⟨fun q hq => absurd hq (Nat.not_lt_zero q), fun x hx => (by cases hx)⟩⟩

/-- The same for handlers, one by one: ahead of the first pass. -/
structure Ahead (c : List PI) (hs : List PH) (k : Nat) (f : Nat → Option Nat) (good : Bool) : Prop where
  known : Known c hs f
  bad : good = false → BadWays c hs
  zero : f 0 = some 0
  hand : good = true → ∀ (j : Nat) (h : PH), j < k → hs[j]? = some h → f h.tg.toNat = some 1
theorem Ahead.start {c : List PI} {hs : List PH} (hl : 1 ≤ c.length) : Ahead c hs 0 (upd (fun _ => none) 0 0) true := by
  refine ⟨⟨fun p n hp => ?_, fun p n hp => ?_⟩, fun e => (by cases e), upd_same _ _ _, fun _ j h hj => absurd hj (Nat.not_lt_zero j)⟩
  · by_cases e : p = 0
    · subst e
      rw [upd_same] at hp
      cases hp
      exact Reach.start c hs
    · rw [upd_other _ _ _ e] at hp
      cases hp
  · by_cases e : p = 0
    · subst e
      rw [upd_same] at hp
      cases hp
      omega
    · rw [upd_other _ _ _ e] at hp
      cases hp
theorem Ahead.come {c : List PI} {hs : List PH} {k : Nat} {f : Nat → Option Nat} {good : Bool} (h : Ahead c hs k f good) {x : PH} (hx : hs[k]? = some x) :
    (comeP c.length f x.tg.toNat 1 = none → Ahead c hs (k + 1) f false) ∧ (comeP c.length f x.tg.toNat 1 = some (f, false) → Ahead c hs (k + 1) f good) ∧ (comeP c.length f x.tg.toNat 1 = some (upd f x.tg.toNat 1, true) → f x.tg.toNat = none → Ahead c hs (k + 1) (upd f x.tg.toNat 1) good) := by
  have hr : Reach c hs x.tg.toNat 1 := Reach.hand (List.mem_of_getElem? hx)
  have hk := h.known.come hr
  have step : ∀ {f' : Nat → Option Nat} {g : Bool}, Mono f f' → (g = true → good = true) → f' x.tg.toNat = some 1 → g = true → ∀ (j : Nat) (y : PH), j < k + 1 → hs[j]? = some y → f' y.tg.toNat = some 1 := by
    intro f' g hm hg hq b j y hj hy
    by_cases e : j = k
    · subst e
      rw [hx] at hy
      cases hy
      exact hq
    · exact hm _ _ (h.hand (hg b) j y (by omega) hy)
  refine ⟨fun e => ?_, fun e => ?_, fun e hn => ?_⟩
  · have hbad : BadWays c hs := by
      rcases hk with ⟨_, k⟩ | ⟨k, _⟩ | ⟨k, _⟩
      · exact k
      · rw [e] at k; cases k
      · rw [e] at k; cases k
    exact ⟨h.known, fun _ => hbad, h.zero, fun e => (by cases e)⟩
  · have hq : f x.tg.toNat = some 1 := by
      rcases hk with ⟨k, _⟩ | ⟨_, k⟩ | ⟨k, _⟩
      · rw [e] at k; cases k
      · exact k
      · rw [e] at k
        have := congrArg (fun z => z.map (·.2)) k
        simp at this
    exact ⟨h.known, h.bad, h.zero, step (Mono.refl f) id hq⟩
  · obtain ⟨hl, hkn⟩ : x.tg.toNat < c.length ∧ Known c hs (upd f x.tg.toNat 1) := by
      rcases hk with ⟨k, _⟩ | ⟨k, _⟩ | ⟨_, _, a, b⟩
      · rw [e] at k; cases k
      · rw [e] at k
        have := congrArg (fun z => z.map (·.2)) k
        simp at this
      · exact ⟨a, b⟩
    have hm := Mono.upd (n := 1) hn
    exact ⟨hkn, h.bad, hm _ _ h.zero, step hm id (upd_same _ _ _)⟩
theorem Ahead.pass {c : List PI} {hs : List PH} {f : Nat → Option Nat} {good : Bool} (h : Ahead c hs hs.length f good) (U p : Nat) (hU : unset f c.length < U) : Pass c hs U p f good true [] :=
  ⟨h.known, h.bad, h.zero, fun a x hx => by
    obtain ⟨j, hj, rfl⟩ := List.getElem_of_mem hx
    exact h.hand a j _ hj (List.getElem?_eq_getElem hj), Nat.le_of_lt hU, fun _ => hU, fun e => (by cases e)⟩
end Go.Proofs.YtpfhnmgfcmkidaaDoor
