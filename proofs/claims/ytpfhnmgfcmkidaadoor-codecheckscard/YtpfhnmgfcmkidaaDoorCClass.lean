/-
  Classes above each other: a way up that ends, and one that goes round.
-/
import Derived.Test.YtpfhnmgfcmkidaaDoorCWays
namespace Go.Proofs.YtpfhnmgfcmkidaaDoor

/-- The class that is so many steps above (-1, or what is no class: it stays there). -/
def upN (A : List Int) : Nat → Int → Int
  | 0, k => k
  | n + 1, k => upN A n (if belowB k A.length then A.getD k.toNat (-1) else k)
def oneUp (A : List Int) (k : Int) : Int := if belowB k A.length then A.getD k.toNat (-1) else k
theorem upN_succ (A : List Int) (n : Nat) (k : Int) : upN A (n + 1) k = upN A n (oneUp A k) := rfl
theorem upN_add (A : List Int) : ∀ (a b : Nat) (k : Int), upN A (a + b) k = upN A b (upN A a k)
  | 0, b, k => by rw [Nat.zero_add]; rfl
  | a + 1, b, k => by
    rw [show a + 1 + b = (a + b) + 1 by omega, upN_succ, upN_succ, upN_add A a b]
theorem oneUp_out {A : List Int} {k : Int} (h : belowB k A.length = false) : oneUp A k = k := by simp [oneUp, h]
theorem upN_out {A : List Int} {k : Int} (h : belowB k A.length = false) : ∀ n, upN A n k = k
  | 0 => rfl
  | n + 1 => by rw [upN_succ, oneUp_out h, upN_out h n]

/-- All classes are under none, or under a class. -/
def Tied (A : List Int) : Prop := ∀ k, belowB k A.length = true → oneUp A k = -1 ∨ belowB (oneUp A k) A.length = true

theorem below_neg (n : Nat) : belowB (-1) n = false := by simp [belowB]

/-- Once it is at -1, it was a class all the way, up to the first time. -/
theorem upN_least {A : List Int} {k : Int} : ∀ s, upN A s k = -1 → ∃ t, t ≤ s ∧ upN A t k = -1 ∧ ∀ j, j < t → upN A j k ≠ -1
  | 0, h => ⟨0, Nat.le_refl _, h, fun j hj => by omega⟩
  | s + 1, h => by
    by_cases e : upN A s k = -1
    · obtain ⟨t, h1, h2, h3⟩ := upN_least s e
      exact ⟨t, by omega, h2, h3⟩
    · refine ⟨s + 1, Nat.le_refl _, h, fun j hj he => ?_⟩
      have : upN A s k = -1 := by
        rw [show s = j + (s - j) by omega, upN_add, he, upN_out (below_neg _)]
      exact e this

/-- Numbers below n without one twice: at most n. -/
theorem pigeon : ∀ (n : Nat) (l : List Int), l.Nodup → (∀ x ∈ l, 0 ≤ x ∧ x < n) → l.length ≤ n
  | 0, l, _, h => by
    cases l with
    | nil => exact Nat.le_refl _
    | cons x r => have := h x (by simp); omega
  | n + 1, l, hn, h => by
    by_cases hm : (n : Int) ∈ l
    · have h1 := pigeon n (l.erase n) (hn.erase _) (fun x hx => by
        have hx' := (hn.mem_erase_iff).1 hx
        have := h x hx'.2
        have : x ≠ n := hx'.1
        omega)
      have h2 := List.length_erase_of_mem hm
      omega
    · have := pigeon n l hn (fun x hx => by
        have h1 := h x hx
        have : x ≠ n := fun e => hm (e ▸ hx)
        omega)
      omega

/-- No class is met twice on a way that ends. -/
theorem upN_inj {A : List Int} {k : Int} {t : Nat} (ht : upN A t k = -1) (hl : ∀ j, j < t → upN A j k ≠ -1) {a b : Nat} (hab : a < b) (hb : b < t) : upN A a k ≠ upN A b k := by
  intro e
  have h1 : upN A (t - (b - a)) k = -1 := by
    rw [show t - (b - a) = a + (t - b) by omega, upN_add, e, ← upN_add, show b + (t - b) = t by omega]
    exact ht
  exact hl _ (by omega) h1

theorem nodup_map_range {f : Nat → Int} : ∀ t, (∀ a b, a < b → b < t → f a ≠ f b) → ((List.range t).map f).Nodup
  | 0, _ => by simp
  | t + 1, h => by
    rw [List.range_succ, List.map_append, List.map_singleton]
    refine List.nodup_append.2 ⟨nodup_map_range t fun a b h1 h2 => h a b h1 (by omega), by simp, fun x hx y hy => ?_⟩
    obtain ⟨a, ha, rfl⟩ := List.mem_map.1 hx
    obtain rfl := List.mem_singleton.1 hy
    exact h a t (List.mem_range.1 ha) (Nat.lt_succ_self t)

theorem upN_below {A : List Int} (hA : Tied A) {k : Int} (hk : belowB k A.length = true) : ∀ j, upN A j k = -1 ∨ belowB (upN A j k) A.length = true
  | 0 => Or.inr hk
  | j + 1 => by
    rcases upN_below hA hk j with h | h
    · left; rw [upN_add, h, upN_out (below_neg _)]
    · rw [upN_add]
      exact hA _ h

/-- A way that ends does so within so many steps as there are classes. -/
theorem upN_short {A : List Int} (hA : Tied A) {k : Int} (hk : belowB k A.length = true) {s : Nat} (hs : upN A s k = -1) : ∃ t, t ≤ A.length ∧ upN A t k = -1 ∧ ∀ j, j < t → upN A j k ≠ -1 := by
  obtain ⟨t, _, h2, h3⟩ := upN_least s hs
  refine ⟨t, ?_, h2, h3⟩
  have hn := nodup_map_range (f := fun j => upN A j k) t (fun a b hab hb => upN_inj h2 h3 hab hb)
  have := pigeon A.length _ hn (fun x hx => by
    obtain ⟨j, hj, rfl⟩ := List.mem_map.1 hx
    rcases upN_below hA hk j with h | h
    · exact absurd h (h3 j (List.mem_range.1 hj))
    · exact belowB_true h)
  simpa using this

/-- The program's answer: does one come to none within so many steps? -/
def endsP (A : List Int) : Nat → Int → Bool
  | 0, _ => false
  | n + 1, k => (oneUp A k == -1) || (belowB (oneUp A k) A.length && endsP A n (oneUp A k))
theorem endsP_iff {A : List Int} (hA : Tied A) : ∀ (n : Nat) {k : Int}, belowB k A.length = true → (endsP A n k = true ↔ ∃ t, t ≤ n ∧ upN A t k = -1)
  | 0, k, hk => by
    simp only [endsP, Bool.false_eq_true, false_iff]
    rintro ⟨t, h1, h2⟩
    obtain rfl : t = 0 := by omega
    have := belowB_true hk
    have : k = -1 := h2
    omega
  | n + 1, k, hk => by
    unfold endsP
    rcases hA k hk with h | h
    · simp only [h, beq_self_eq_true, Bool.true_or, true_iff]
      exact ⟨1, by omega, h⟩
    · have h1 : oneUp A k ≠ -1 := fun e => by rw [e, below_neg] at h; cases h
      have h2 : (oneUp A k == -1) = false := by simp [h1]
      rw [h2, h, Bool.false_or, Bool.true_and, endsP_iff hA n h]
      constructor
      · rintro ⟨t, h3, h4⟩
        exact ⟨t + 1, by omega, h4⟩
      · rintro ⟨t, h3, h4⟩
        cases t with
        | zero =>
          have := belowB_true hk
          have : k = -1 := h4
          omega
        | succ t => exact ⟨t, by omega, h4⟩

/-- The document's answer, from k on, at class i, when n steps were gone: is it above itself? (g: how many steps are left) -/
def roundP (A : List Int) (i : Int) : Nat → Nat → Int → Bool
  | 0, _, _ => false
  | g + 1, n, k => if belowB k A.length then (if k = i ∨ A.length < n then true else roundP A i g (n + 1) (oneUp A k)) else false

theorem upN_ends {A : List Int} {i : Int} {t n : Nat} (ht : upN A t i = -1) (h : t ≤ n) : upN A n i = -1 := by
  rw [show n = t + (n - t) by omega, upN_add, ht, upN_out (below_neg _)]

theorem roundP_iff {A : List Int} (hA : Tied A) {i : Int} (hi : belowB i A.length = true) : roundP A i (A.length + 2) 0 (oneUp A i) = true ↔ ∀ t, upN A t i ≠ -1 := by
  have gen : ∀ (g n : Nat) (k : Int), n + g = A.length + 2 → n ≤ A.length + 1 → k = upN A (n + 1) i → (roundP A i g n k = true ↔ ∀ t, upN A t i ≠ -1) := by
    intro g
    induction g with
    | zero => intro n k hg hn; omega
    | succ g ih =>
      intro n k hg hn hk
      unfold roundP
      by_cases hb : belowB k A.length = true
      · rw [if_pos hb]
        by_cases h1 : k = i ∨ A.length < n
        · rw [if_pos h1]
          simp only [true_iff]
          intro t ht
          obtain ⟨s, h2, h3, h4⟩ := upN_short hA hi ht
          have hlt : n + 1 < s := by
            rcases Nat.lt_or_ge (n + 1) s with h | h
            · exact h
            · have := upN_ends h3 h
              rw [← hk] at this
              rw [this, below_neg] at hb
              cases hb
          rcases h1 with h1 | h1
          · refine upN_inj h3 h4 (a := 0) (b := n + 1) (by omega) hlt ?_
            rw [← hk, h1]
            rfl
          · omega
        · rw [if_neg h1]
          exact ih (n + 1) _ (by omega) (by omega) (by rw [hk]; exact (upN_add A (n + 1) 1 i).symm)
      · rw [if_neg hb]
        simp only [Bool.false_eq_true, false_iff]
        intro h
        rcases upN_below hA hi (n + 1) with h1 | h1
        · exact h _ h1
        · rw [← hk] at h1
          exact hb h1
  exact gen (A.length + 2) 0 _ (by omega) (by omega) rfl

/-- Both say the same of a class. -/
theorem ends_round {A : List Int} (hA : Tied A) {i : Int} (hi : belowB i A.length = true) : endsP A A.length i = !roundP A i (A.length + 2) 0 (oneUp A i) := by
  have h1 := endsP_iff hA A.length hi
  have h2 := roundP_iff hA hi
  cases hr : roundP A i (A.length + 2) 0 (oneUp A i) with
  | true =>
    rw [Bool.not_true]
    have := h2.1 hr
    cases he : endsP A A.length i with
    | true => obtain ⟨t, _, h⟩ := h1.1 he; exact absurd h (this t)
    | false => rfl
  | false =>
    rw [Bool.not_false]
    apply h1.2
    rcases Classical.em (∀ t, upN A t i ≠ -1) with h | h
    · rw [h2.2 h] at hr; cases hr
    · obtain ⟨t, ht⟩ : ∃ t, upN A t i = -1 := by
        rcases Classical.em (∃ t, upN A t i = -1) with k | k
        · exact k
        · exact absurd (fun t e => k ⟨t, e⟩) h
      obtain ⟨s, a, b, _⟩ := upN_short hA hi ht
      exact ⟨s, a, b⟩

def aboves (m : PM) : List Int := m.classes.map (·.above)
theorem aboves_length (m : PM) : (aboves m).length = m.classes.length := by simp [aboves]

/-- The program's word on a class. -/
def classOk (m : PM) (i : Nat) (c : PK) : Bool := (c.names.length == c.meths.length) && c.meths.all (callB m) && endsP (aboves m) m.classes.length i
/-- The document's. -/
def classBad (m : PM) (i : Nat) (c : PK) : Bool :=
  let bad := !(inB c.above (-1) (m.classes.length - 1)) || (c.names.length != c.meths.length) || c.meths.any (fun f => !callB m f)
  bad || roundP (aboves m) i (m.classes.length + 2) 0 c.above

theorem oneUp_class {m : PM} {i : Nat} {c : PK} (h : m.classes[i]? = some c) : oneUp (aboves m) i = c.above := by
  have hl := (List.getElem?_eq_some_iff.1 h).1
  unfold oneUp
  rw [if_pos (by rw [aboves_length]; simp [belowB]; exact hl)]
  simp [aboves, List.getD, h]

theorem any_not_all {α : Type} (p : α → Bool) : ∀ l : List α, l.any (fun x => !p x) = !l.all p
  | [] => rfl
  | x :: l => by simp only [List.any_cons, List.all_cons, any_not_all p l, Bool.not_and]

/-- All classes are right by the program just if none is bad by the document. -/
theorem classes_alike (m : PM) : (∀ (i : Nat) (c : PK), m.classes[i]? = some c → classOk m i c = true) ↔ (∀ (i : Nat) (c : PK), m.classes[i]? = some c → classBad m i c = false) := by
  have up : ∀ (i : Nat) (c : PK), m.classes[i]? = some c → belowB i (aboves m).length = true := fun i c h => by
    have hl := (List.getElem?_eq_some_iff.1 h).1
    rw [aboves_length]; simp [belowB]; exact hl
  have tied : (∀ (i : Nat) (c : PK), m.classes[i]? = some c → inB c.above (-1) (m.classes.length - 1) = true) → Tied (aboves m) := by
    intro h k hk
    have hk' := belowB_true hk
    rw [aboves_length] at hk'
    have hi : m.classes[k.toNat]? = some (m.classes[k.toNat]'(by omega)) := List.getElem?_eq_getElem _
    have e := oneUp_class hi
    rw [show ((k.toNat : Nat) : Int) = k by omega] at e
    have h2 := inB_true (h _ _ hi)
    rw [e, aboves_length]
    by_cases h3 : (m.classes[k.toNat]'(by omega)).above = -1
    · exact Or.inl h3
    · right; simp [belowB]; omega
  constructor
  · intro h
    have ha : ∀ (i : Nat) (c : PK), m.classes[i]? = some c → inB c.above (-1) (m.classes.length - 1) = true := by
      intro i c hc
      have h1 := h i c hc
      unfold classOk at h1
      simp only [Bool.and_eq_true] at h1
      have h2 := h1.2
      rw [← aboves_length] at h2
      have hpos := (List.getElem?_eq_some_iff.1 hc).1
      obtain ⟨n, hn⟩ : ∃ n, (aboves m).length = n + 1 := ⟨m.classes.length - 1, by rw [aboves_length]; omega⟩
      rw [hn] at h2
      unfold endsP at h2
      rw [oneUp_class hc] at h2
      simp only [Bool.or_eq_true, Bool.and_eq_true, beq_iff_eq] at h2
      rcases h2 with h2 | h2
      · simp [inB, h2]; omega
      · have := belowB_true h2.1
        rw [aboves_length] at this
        simp [inB]; omega
    have hT := tied ha
    intro i c hc
    have h1 := h i c hc
    unfold classOk at h1
    simp only [Bool.and_eq_true, beq_iff_eq] at h1
    have h3 := ends_round hT (up i c hc)
    rw [oneUp_class hc, aboves_length, h1.2] at h3
    unfold classBad
    have h4 : roundP (aboves m) i (m.classes.length + 2) 0 c.above = false := by
      cases hr : roundP (aboves m) i (m.classes.length + 2) 0 c.above with
      | true => rw [hr] at h3; cases h3
      | false => rfl
    simp only [h4, ha i c hc, any_not_all, h1.1.2, h1.1.1, bne_self_eq_false, Bool.not_true, Bool.or_self]
  · intro h
    have ha : ∀ (i : Nat) (c : PK), m.classes[i]? = some c → inB c.above (-1) (m.classes.length - 1) = true := by
      intro i c hc
      have h1 := h i c hc
      unfold classBad at h1
      simp only [Bool.or_eq_false_iff, Bool.not_eq_false'] at h1
      exact h1.1.1.1
    have hT := tied ha
    intro i c hc
    have h1 := h i c hc
    unfold classBad at h1
    simp only [Bool.or_eq_false_iff, any_not_all, Bool.not_eq_false', bne_eq_false_iff_eq] at h1
    have h3 := ends_round hT (up i c hc)
    rw [oneUp_class hc, aboves_length, h1.2] at h3
    unfold classOk
    rw [h3, h1.1.2]
    simp [h1.1.1.2]
end Go.Proofs.YtpfhnmgfcmkidaaDoor
