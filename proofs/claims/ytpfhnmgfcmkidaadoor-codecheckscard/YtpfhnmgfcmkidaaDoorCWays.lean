/-
  The two ways of finding the numbers of values: an open list; spreading until nothing changes.
-/
import Derived.Test.YtpfhnmgfcmkidaaDoorCPure
namespace Go.Proofs.YtpfhnmgfcmkidaaDoor

/-- How many of the first N instructions are not come to. -/
def unset (f : Nat → Option Nat) : Nat → Nat
  | 0 => 0
  | n + 1 => unset f n + if f n = none then 1 else 0
def upd (f : Nat → Option Nat) (p n : Nat) : Nat → Option Nat := fun q => if q = p then some n else f q
theorem upd_same (f : Nat → Option Nat) (p n : Nat) : upd f p n p = some n := by simp [upd]
theorem upd_other (f : Nat → Option Nat) (p n : Nat) {q : Nat} (h : q ≠ p) : upd f p n q = f q := by simp [upd, h]
theorem unset_le (f : Nat → Option Nat) : ∀ N, unset f N ≤ N
  | 0 => Nat.le_refl _
  | n + 1 => by
    have := unset_le f n
    unfold unset
    split <;> omega
theorem unset_ge {f : Nat → Option Nat} {p n : Nat} : ∀ N, N ≤ p → unset (upd f p n) N = unset f N
  | 0, _ => rfl
  | k + 1, h => by
    unfold unset
    rw [unset_ge k (by omega), upd_other f p n (by omega)]
theorem unset_upd {f : Nat → Option Nat} {p n : Nat} (hp : f p = none) : ∀ N, p < N → unset (upd f p n) N + 1 = unset f N
  | 0, h => by omega
  | k + 1, h => by
    unfold unset
    by_cases e : p = k
    · subst e
      rw [unset_ge p (Nat.le_refl _), upd_same, hp]
      simp
    · rw [upd_other f p n (fun q => e q.symm)]
      have := unset_upd (f := f) (n := n) hp k (by omega)
      omega

/-- What a coming does: none: that may not be. -/
def comeP (N : Nat) (f : Nat → Option Nat) (at_ n : Nat) : Option ((Nat → Option Nat) × Bool) :=
  if N ≤ at_ ∨ 200 < n then none
  else match f at_ with
    | some k => if k = n then some (f, false) else none
    | none => some (upd f at_ n, true)

/-- What is known on the way: all that is noted is come to. -/
structure Known (c : List PI) (hs : List PH) (f : Nat → Option Nat) : Prop where
  reach : ∀ p n, f p = some n → Reach c hs p n
  bound : ∀ p n, f p = some n → p < c.length ∧ n ≤ 200

theorem Known.come {c : List PI} {hs : List PH} {f : Nat → Option Nat} (h : Known c hs f) {at_ n : Nat} (r : Reach c hs at_ n) :
    (comeP c.length f at_ n = none ∧ BadWays c hs) ∨ (comeP c.length f at_ n = some (f, false) ∧ f at_ = some n) ∨ (comeP c.length f at_ n = some (upd f at_ n, true) ∧ f at_ = none ∧ at_ < c.length ∧ Known c hs (upd f at_ n)) := by
  unfold comeP
  by_cases h1 : c.length ≤ at_ ∨ 200 < n
  · rw [if_pos h1]
    exact Or.inl ⟨rfl, at_, n, r, h1.elim Or.inl fun k => Or.inr (Or.inl k)⟩
  · rw [if_neg h1]
    cases e : f at_ with
    | some k =>
      by_cases hk : k = n
      · subst hk
        simp
      · left
        exact ⟨by simp [hk], at_, n, r, Or.inr (Or.inr (Or.inr ⟨k, h.reach _ _ e, hk⟩))⟩
    | none =>
      right; right
      refine ⟨rfl, rfl, by omega, ⟨fun p m hp => ?_, fun p m hp => ?_⟩⟩
      · by_cases hq : p = at_
        · subst hq
          rw [upd_same] at hp
          cases hp
          exact r
        · rw [upd_other f at_ n hq] at hp
          exact h.reach _ _ hp
      · by_cases hq : p = at_
        · subst hq
          rw [upd_same] at hp
          cases hp
          omega
        · rw [upd_other f at_ n hq] at hp
          exact h.bound _ _ hp

/-- Whoever takes more than there is. -/
theorem Known.short {c : List PI} {hs : List PH} {f : Nat → Option Nat} (h : Known c hs f) {p n : Nat} {i : PI} (hp : f p = some n) (hi : c[p]? = some i) (ht : (n : Int) < takes i) : BadWays c hs :=
  ⟨p, n, h.reach p n hp, Or.inr (Or.inr (Or.inl ⟨i, hi, ht⟩))⟩

/-- An instruction is done: what it takes is there, and where it leads to is noted. -/
def Done (c : List PI) (f : Nat → Option Nat) (p : Nat) : Prop := ∀ n i, f p = some n → c[p]? = some i → takes i ≤ n ∧ ∀ q k, (q, k) ∈ nexts i p n → f q = some k

theorem Done.upd {c : List PI} {f : Nat → Option Nat} {p q n : Nat} (h : Done c f p) (hq : f q = none) (hp : f p ≠ none) : Done c (upd f q n) p := by
  intro m i hm hi
  have hpq : p ≠ q := fun e => hp (e ▸ hq)
  rw [upd_other f q n hpq] at hm
  obtain ⟨h1, h2⟩ := h m i hm hi
  refine ⟨h1, fun r k hr => ?_⟩
  have := h2 r k hr
  rw [upd_other f q n (fun e => by rw [e, hq] at this; cases this)]
  exact this

/-- The open list's book: all that is noted is open, or done. -/
structure Book (c : List PI) (hs : List PH) (f : Nat → Option Nat) (o : List Nat) : Prop where
  known : Known c hs f
  opened : ∀ p ∈ o, p < c.length ∧ f p ≠ none
  done : ∀ p, f p ≠ none → p ∉ o → Done c f p

theorem Book.push {c : List PI} {hs : List PH} {f : Nat → Option Nat} {o : List Nat} (b : Book c hs f o) {p n : Nat} (hp : f p = none) (hl : p < c.length) (hk : Known c hs (upd f p n)) : Book c hs (upd f p n) (o ++ [p]) := by
  refine ⟨hk, fun q hq => ?_, fun q hq hn => ?_⟩
  · rcases List.mem_append.1 hq with h | h
    · have := b.opened q h
      exact ⟨this.1, by rw [upd_other f p n (fun e => by rw [e] at this; exact this.2 hp)]; exact this.2⟩
    · obtain rfl := List.mem_singleton.1 h
      exact ⟨hl, by rw [upd_same]; simp⟩
  · have hqp : q ≠ p := fun e => hn (by rw [e]; simp)
    rw [upd_other f p n hqp] at hq
    exact (b.done q hq (fun h => hn (List.mem_append.2 (Or.inl h)))).upd hp hq

/-- One that is open is being gone on from: the book but for it. -/
structure BookBut (c : List PI) (hs : List PH) (f : Nat → Option Nat) (o : List Nat) (x : Nat) : Prop where
  known : Known c hs f
  opened : ∀ p ∈ o, p < c.length ∧ f p ≠ none
  done : ∀ p, f p ≠ none → p ∉ o → p ≠ x → Done c f p

theorem Book.pop {c : List PI} {hs : List PH} {f : Nat → Option Nat} {o : List Nat} {x : Nat} (b : Book c hs f (o ++ [x])) : BookBut c hs f o x ∧ x < c.length ∧ ∃ n, f x = some n := by
  have hx := b.opened x (by simp)
  refine ⟨⟨b.known, fun p hp => b.opened p (by simp [hp]), fun p h1 h2 h3 => b.done p h1 (by simp [h2, h3])⟩, hx.1, ?_⟩
  cases e : f x with
  | none => exact absurd e hx.2
  | some n => exact ⟨n, rfl⟩
theorem BookBut.push {c : List PI} {hs : List PH} {f : Nat → Option Nat} {o : List Nat} {x : Nat} (b : BookBut c hs f o x) {p n : Nat} (hp : f p = none) (hl : p < c.length) (hk : Known c hs (upd f p n)) : BookBut c hs (upd f p n) (o ++ [p]) x := by
  refine ⟨hk, fun q hq => ?_, fun q hq hn hx => ?_⟩
  · rcases List.mem_append.1 hq with h | h
    · have := b.opened q h
      exact ⟨this.1, by rw [upd_other f p n (fun e => by rw [e] at this; exact this.2 hp)]; exact this.2⟩
    · obtain rfl := List.mem_singleton.1 h
      exact ⟨hl, by rw [upd_same]; simp⟩
  · have hqp : q ≠ p := fun e => hn (by rw [e]; simp)
    rw [upd_other f p n hqp] at hq
    exact (b.done q hq (fun h => hn (List.mem_append.2 (Or.inl h))) hx).upd hp hq
theorem BookBut.close {c : List PI} {hs : List PH} {f : Nat → Option Nat} {o : List Nat} {x : Nat} (b : BookBut c hs f o x) (hd : Done c f x) : Book c hs f o :=
  ⟨b.known, b.opened, fun p h1 h2 => by
    by_cases e : p = x
    · rw [e]; exact hd
    · exact b.done p h1 h2 e⟩

theorem Book.good {c : List PI} {hs : List PH} {f : Nat → Option Nat} (b : Book c hs f []) (h0 : f 0 = some 0) (hh : ∀ h ∈ hs, f h.tg.toNat = some 1) : ¬ BadWays c hs :=
  good_of_shut f h0 hh b.known.bound (fun p n i h1 h2 => b.done p (by rw [h1]; simp) (by simp) n i h1 h2)

theorem nexts_mem {i : PI} {p n q k : Nat} : (q, k) ∈ nexts i p n ↔ (0 ≤ goesTo i ∧ q = (goesTo i).toNat ∧ k = (n - takes i + there i).toNat) ∨ (goesOn i = true ∧ q = p + 1 ∧ k = (n - takes i + leaves i).toNat) := by
  unfold nexts
  rw [List.mem_append]
  constructor
  · rintro (h | h)
    · left
      split at h
      · rw [List.mem_singleton] at h
        cases h
        exact ⟨by assumption, rfl, rfl⟩
      · cases h
    · right
      split at h
      · rw [List.mem_singleton] at h
        cases h
        exact ⟨by assumption, rfl, rfl⟩
      · cases h
  · rintro (⟨h1, h2, h3⟩ | ⟨h1, h2, h3⟩)
    · left; rw [if_pos h1, h2, h3]; simp
    · right; rw [if_pos h1, h2, h3]; simp
end Go.Proofs.YtpfhnmgfcmkidaaDoor
