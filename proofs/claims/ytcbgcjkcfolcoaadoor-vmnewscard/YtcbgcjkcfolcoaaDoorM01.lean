/-
  Images as plain data; the ways through a function's code.
  The two ways of finding the numbers of values: an open list; spreading until nothing changes.
  Classes above each other: a way up that ends, and one that goes round.
  What is wrong with an image first, and where.
-/
namespace Go.Proofs.YtcbgcjkcfolcoaaDoor

structure PI where
  op : Int
  a : Int
  b : Int
structure PH where
  fr : Int
  to : Int
  tg : Int
structure PV where
  name : ByteArray
  slot : Int
  fr : Int
  to : Int
  boxed : Bool
structure PF where
  name : ByteArray
  params : Int
  slots : Int
  code : List PI
  hands : List PH
  vars : List PV
structure PC where
  text : Bool
  s : ByteArray
  n : Int
structure PK where
  name : ByteArray
  above : Int
  fields : List ByteArray
  names : List ByteArray
  meths : List Int
structure PM where
  funcs : List PF
  consts : List PC
  classes : List PK

/-- Is n from low to top? -/
def inB (n low top : Int) : Bool := decide (low ≤ n ∧ n ≤ top)
/-- Is n one of so many? -/
def belowB (n many : Int) : Bool := decide (0 ≤ n ∧ n < many)
theorem belowB_true {n m : Int} (h : belowB n m = true) : 0 ≤ n ∧ n < m := by simpa [belowB] using h
theorem belowB_false {n m : Int} (h : belowB n m = false) : n < 0 ∨ m ≤ n := by
  simp [belowB] at h; omega
theorem inB_true {n l t : Int} (h : inB n l t = true) : l ≤ n ∧ n ≤ t := by simpa [inB] using h
theorem inB_false {n l t : Int} (h : inB n l t = false) : n < l ∨ t < n := by
  simp [inB] at h; omega
theorem inB_below (n m : Int) : inB n 0 (m - 1) = belowB n m := by
  unfold inB belowB; apply decide_eq_decide.2; omega

def constAt (m : PM) (k : Int) : PC := m.consts.getD k.toNat ⟨false, ByteArray.empty, 0⟩
def funcAt (m : PM) (k : Int) : PF := m.funcs.getD k.toNat ⟨ByteArray.empty, 0, 0, [], [], []⟩
def isText (m : PM) (k : Int) : Bool := belowB k m.consts.length && (constAt m k).text
def fewB (n : Int) : Bool := inB n 0 50
def callB (m : PM) (k : Int) : Bool := (k != 0) && belowB k m.funcs.length

/-- Which kind of names an operation has. -/
def namesOf (op : Int) : Nat :=
  if op = 2 then 1
  else if op = 6 ∨ op = 7 ∨ op = 8 ∨ op = 9 ∨ op = 10 then 2
  else if op = 11 ∨ op = 12 ∨ op = 13 ∨ op = 29 then 3
  else if op = 15 ∨ op = 16 ∨ op = 17 ∨ op = 18 then 4
  else if op = 32 ∨ op = 33 then 5
  else if op = 34 then 6
  else if op = 35 then 7
  else if op = 36 then 8
  else if op = 37 then 9
  else if op = 38 then 10
  else if op = 39 then 11
  else if 1 ≤ op ∧ op ≤ 45 then 0
  else 12

/-- Is there what an instruction names? -/
def nameOk (m : PM) (slots : Int) (len : Nat) (i : PI) : Bool :=
  match namesOf i.op with
  | 0 => true
  | 1 => belowB i.a m.consts.length
  | 2 => belowB i.a slots
  | 3 => fewB i.a
  | 4 => belowB i.a len
  | 5 => isText m i.a
  | 6 => isText m i.a && fewB i.b
  | 7 => isText m i.a && decide (0 ≤ i.b) && belowB (i.b.tdiv 64) m.classes.length && fewB (i.b.tmod 64)
  | 8 => belowB i.a m.classes.length && fewB i.b
  | 9 => fewB i.b
  | 10 => callB m i.a && (i.b == (funcAt m i.a).params) && fewB i.b
  | 11 => callB m i.a && fewB i.b
  | _ => false

/-- How many values an instruction takes. -/
def takes (i : PI) : Int :=
  if i.op = 7 ∨ i.op = 8 ∨ i.op = 10 ∨ i.op = 13 ∨ i.op = 14 ∨ i.op = 40 ∨ i.op = 41 ∨ i.op = 42 ∨ i.op = 16 ∨ i.op = 17 ∨ i.op = 18 ∨ i.op = 19 ∨ i.op = 20 ∨ i.op = 21 ∨ i.op = 44 ∨ i.op = 32 then 1
  else if i.op = 22 ∨ i.op = 23 ∨ i.op = 24 ∨ i.op = 25 ∨ i.op = 26 ∨ i.op = 27 ∨ i.op = 28 ∨ i.op = 30 ∨ i.op = 33 then 2
  else if i.op = 31 then 3
  else if i.op = 29 then i.a
  else if i.op = 34 ∨ i.op = 37 then i.b + 1
  else if i.op = 35 then i.b.tmod 64 + 1
  else if i.op = 36 ∨ i.op = 38 ∨ i.op = 39 then i.b
  else 0
/-- How many it leaves where it goes on. -/
def leaves (i : PI) : Int :=
  if i.op = 2 ∨ i.op = 3 ∨ i.op = 4 ∨ i.op = 5 ∨ i.op = 43 ∨ i.op = 6 ∨ i.op = 9 ∨ i.op = 11 ∨ i.op = 12 ∨ i.op = 19 ∨ i.op = 20 ∨ i.op = 21 ∨ i.op = 44 ∨ i.op = 32 ∨ i.op = 22 ∨ i.op = 23 ∨ i.op = 24 ∨ i.op = 25 ∨ i.op = 26 ∨ i.op = 27 ∨ i.op = 28 ∨ i.op = 30 ∨ i.op = 29 ∨ i.op = 34 ∨ i.op = 37 ∨ i.op = 35 ∨ i.op = 36 ∨ i.op = 38 ∨ i.op = 39 then 1 else 0
/-- Where else it goes (-1: nowhere). -/
def goesTo (i : PI) : Int := if i.op = 15 ∨ i.op = 16 ∨ i.op = 17 ∨ i.op = 18 then i.a else -1
/-- What it leaves there. -/
def there (i : PI) : Int := if i.op = 17 ∨ i.op = 18 then 1 else 0
/-- Does it go on behind itself? -/
def goesOn (i : PI) : Bool := !(i.op == 15 || i.op == 40 || i.op == 41)

theorem op_cases (op : Int) (h1 : 1 ≤ op) (h2 : op ≤ 45) : op = 1 ∨ op = 2 ∨ op = 3 ∨ op = 4 ∨ op = 5 ∨ op = 6 ∨ op = 7 ∨ op = 8 ∨ op = 9 ∨ op = 10 ∨ op = 11 ∨ op = 12 ∨ op = 13 ∨ op = 14 ∨ op = 15 ∨ op = 16 ∨ op = 17 ∨ op = 18 ∨ op = 19 ∨ op = 20 ∨ op = 21 ∨ op = 22 ∨ op = 23 ∨ op = 24 ∨ op = 25 ∨ op = 26 ∨ op = 27 ∨ op = 28 ∨ op = 29 ∨ op = 30 ∨ op = 31 ∨ op = 32 ∨ op = 33 ∨ op = 34 ∨ op = 35 ∨ op = 36 ∨ op = 37 ∨ op = 38 ∨ op = 39 ∨ op = 40 ∨ op = 41 ∨ op = 42 ∨ op = 43 ∨ op = 44 ∨ op = 45 := by omega

theorem nameOk_op {m : PM} {s : Int} {n : Nat} {i : PI} (h : nameOk m s n i = true) : 1 ≤ i.op ∧ i.op ≤ 45 := by
  rcases Decidable.em (1 ≤ i.op ∧ i.op ≤ 45) with k | k
  · exact k
  · have : namesOf i.op = 12 := by
      unfold namesOf
      repeat (first | rw [if_neg (by omega)] | rfl)
    unfold nameOk at h
    rw [this] at h
    cases h

theorem takes_bound {m : PM} {s : Int} {n : Nat} {i : PI} (h : nameOk m s n i = true) : 0 ≤ takes i ∧ takes i ≤ 51 := by
  obtain ⟨h1, h2⟩ := nameOk_op h
  obtain ⟨op, a, b⟩ := i
  rcases op_cases op h1 h2 with rfl|rfl|rfl|rfl|rfl|rfl|rfl|rfl|rfl|rfl|rfl|rfl|rfl|rfl|rfl|rfl|rfl|rfl|rfl|rfl|rfl|rfl|rfl|rfl|rfl|rfl|rfl|rfl|rfl|rfl|rfl|rfl|rfl|rfl|rfl|rfl|rfl|rfl|rfl|rfl|rfl|rfl|rfl|rfl|rfl
  all_goals first
    | (simp [takes]; done)
    | (simp [nameOk, namesOf, fewB, inB] at h; simp [takes]; omega)

theorem leaves_bound (i : PI) : 0 ≤ leaves i ∧ leaves i ≤ 1 := by
  unfold leaves; split <;> omega
theorem there_bound (i : PI) : 0 ≤ there i ∧ there i ≤ 1 := by
  unfold there; split <;> omega

theorem goesTo_bound {m : PM} {s : Int} {n : Nat} {i : PI} (h : nameOk m s n i = true) : goesTo i = -1 ∨ (0 ≤ goesTo i ∧ goesTo i < n) := by
  unfold goesTo
  split
  · right
    rename_i k
    have e : namesOf i.op = 4 := by
      unfold namesOf
      rcases k with k | k | k | k <;> rw [k] <;> rfl
    unfold nameOk at h
    rw [e] at h
    exact belowB_true h
  · exact Or.inl rfl

/-- Where one comes from an instruction, and with how many values. -/
def nexts (i : PI) (p n : Nat) : List (Nat × Nat) :=
  (if 0 ≤ goesTo i then [((goesTo i).toNat, (n - takes i + there i).toNat)] else []) ++ (if goesOn i then [(p + 1, (n - takes i + leaves i).toNat)] else [])

/-- A set of pairs that the ways never leave. -/
structure Shut (c : List PI) (hs : List PH) (S : Nat → Nat → Prop) : Prop where
  start : S 0 0
  hand : ∀ h ∈ hs, S h.tg.toNat 1
  next : ∀ p n i, S p n → c[p]? = some i → takes i ≤ n → ∀ q k, (q, k) ∈ nexts i p n → S q k
/-- One comes to instruction p with n values. -/
def Reach (c : List PI) (hs : List PH) (p n : Nat) : Prop := ∀ S, Shut c hs S → S p n
theorem Reach.start (c : List PI) (hs : List PH) : Reach c hs 0 0 := fun _ h => h.start
theorem Reach.hand {c : List PI} {hs : List PH} {h : PH} (k : h ∈ hs) : Reach c hs h.tg.toNat 1 := fun _ s => s.hand h k
theorem Reach.next {c : List PI} {hs : List PH} {p n : Nat} {i : PI} (r : Reach c hs p n) (hi : c[p]? = some i) (ht : takes i ≤ n) {q k : Nat} (hq : (q, k) ∈ nexts i p n) : Reach c hs q k :=
  fun S s => s.next p n i (r S s) hi ht q k hq
/-- What may not be. -/
def Wrong (c : List PI) (hs : List PH) (p n : Nat) : Prop :=
  c.length ≤ p ∨ 200 < n ∨ (∃ i, c[p]? = some i ∧ (n : Int) < takes i) ∨ ∃ k, Reach c hs p k ∧ k ≠ n
def BadWays (c : List PI) (hs : List PH) : Prop := ∃ p n, Reach c hs p n ∧ Wrong c hs p n

/-- What is known of an instruction: how many values there are. -/
theorem good_of_shut {c : List PI} {hs : List PH} (f : Nat → Option Nat) (h0 : f 0 = some 0) (hh : ∀ h ∈ hs, f h.tg.toNat = some 1)
    (hb : ∀ p n, f p = some n → p < c.length ∧ n ≤ 200)
    (hn : ∀ p n i, f p = some n → c[p]? = some i → takes i ≤ n ∧ ∀ q k, (q, k) ∈ nexts i p n → f q = some k) : ¬ BadWays c hs := by
  have hs' : Shut c hs (fun p n => f p = some n) := ⟨h0, hh, fun p n i h1 h2 _ q k h4 => (hn p n i h1 h2).2 q k h4⟩
  rintro ⟨p, n, r, w⟩
  have e : f p = some n := r _ hs'
  have hb' := hb p n e
  rcases w with h | h | ⟨i, h1, h2⟩ | ⟨k, h1, h2⟩
  · omega
  · omega
  · have := (hn p n i e h1).1
    omega
  · have e2 : f p = some k := h1 _ hs'
    rw [e] at e2
    exact h2 (Option.some.inj e2).symm

end Go.Proofs.YtcbgcjkcfolcoaaDoor

namespace Go.Proofs.YtcbgcjkcfolcoaaDoor

/-- How many of the first N instructions are not come to. -/
def unset (f : Nat → Option Nat) : Nat → Nat
  | 0 => 0
  | n + 1 => unset f n + if f n = none then 1 else 0
def upd (f : Nat → Option Nat) (p n : Nat) : Nat → Option Nat := fun q => if q = p then some n else f q
theorem upd_same (f : Nat → Option Nat) (p n : Nat) : upd f p n p = some n := by simp [upd]
theorem upd_other (f : Nat → Option Nat) (p n : Nat) {q : Nat} (h : q ≠ p) : upd f p n q = f q := by simp [upd, h]
theorem unset_le (f : Nat → Option Nat) : ∀ N, unset f N ≤ N
  | 0 => Nat.le_refl _
  | n + 1 => by
    have := unset_le f n
    unfold unset
    split <;> omega
theorem unset_ge {f : Nat → Option Nat} {p n : Nat} : ∀ N, N ≤ p → unset (upd f p n) N = unset f N
  | 0, _ => rfl
  | k + 1, h => by
    unfold unset
    rw [unset_ge k (by omega), upd_other f p n (by omega)]
theorem unset_upd {f : Nat → Option Nat} {p n : Nat} (hp : f p = none) : ∀ N, p < N → unset (upd f p n) N + 1 = unset f N
  | 0, h => by omega
  | k + 1, h => by
    unfold unset
    by_cases e : p = k
    · subst e
      rw [unset_ge p (Nat.le_refl _), upd_same, hp]
      simp
    · rw [upd_other f p n (fun q => e q.symm)]
      have := unset_upd (f := f) (n := n) hp k (by omega)
      omega

/-- What a coming does: none: that may not be. -/
def comeP (N : Nat) (f : Nat → Option Nat) (at_ n : Nat) : Option ((Nat → Option Nat) × Bool) :=
  if N ≤ at_ ∨ 200 < n then none
  else match f at_ with
    | some k => if k = n then some (f, false) else none
    | none => some (upd f at_ n, true)

/-- What is known on the way: all that is noted is come to. -/
structure Known (c : List PI) (hs : List PH) (f : Nat → Option Nat) : Prop where
  reach : ∀ p n, f p = some n → Reach c hs p n
  bound : ∀ p n, f p = some n → p < c.length ∧ n ≤ 200

theorem Known.come {c : List PI} {hs : List PH} {f : Nat → Option Nat} (h : Known c hs f) {at_ n : Nat} (r : Reach c hs at_ n) :
    (comeP c.length f at_ n = none ∧ BadWays c hs) ∨ (comeP c.length f at_ n = some (f, false) ∧ f at_ = some n) ∨ (comeP c.length f at_ n = some (upd f at_ n, true) ∧ f at_ = none ∧ at_ < c.length ∧ Known c hs (upd f at_ n)) := by
  unfold comeP
  by_cases h1 : c.length ≤ at_ ∨ 200 < n
  · rw [if_pos h1]
    exact Or.inl ⟨rfl, at_, n, r, h1.elim Or.inl fun k => Or.inr (Or.inl k)⟩
  · rw [if_neg h1]
    cases e : f at_ with
    | some k =>
      by_cases hk : k = n
      · subst hk
        simp
      · left
        exact ⟨by simp [hk], at_, n, r, Or.inr (Or.inr (Or.inr ⟨k, h.reach _ _ e, hk⟩))⟩
    | none =>
      right; right
      refine ⟨rfl, rfl, by omega, ⟨fun p m hp => ?_, fun p m hp => ?_⟩⟩
      · by_cases hq : p = at_
        · subst hq
          rw [upd_same] at hp
          cases hp
          exact r
        · rw [upd_other f at_ n hq] at hp
          exact h.reach _ _ hp
      · by_cases hq : p = at_
        · subst hq
          rw [upd_same] at hp
          cases hp
          omega
        · rw [upd_other f at_ n hq] at hp
          exact h.bound _ _ hp

/-- Whoever takes more than there is. -/
theorem Known.short {c : List PI} {hs : List PH} {f : Nat → Option Nat} (h : Known c hs f) {p n : Nat} {i : PI} (hp : f p = some n) (hi : c[p]? = some i) (ht : (n : Int) < takes i) : BadWays c hs :=
  ⟨p, n, h.reach p n hp, Or.inr (Or.inr (Or.inl ⟨i, hi, ht⟩))⟩

/-- An instruction is done: what it takes is there, and where it leads to is noted. -/
def Done (c : List PI) (f : Nat → Option Nat) (p : Nat) : Prop := ∀ n i, f p = some n → c[p]? = some i → takes i ≤ n ∧ ∀ q k, (q, k) ∈ nexts i p n → f q = some k

theorem Done.upd {c : List PI} {f : Nat → Option Nat} {p q n : Nat} (h : Done c f p) (hq : f q = none) (hp : f p ≠ none) : Done c (upd f q n) p := by
  intro m i hm hi
  have hpq : p ≠ q := fun e => hp (e ▸ hq)
  rw [upd_other f q n hpq] at hm
  obtain ⟨h1, h2⟩ := h m i hm hi
  refine ⟨h1, fun r k hr => ?_⟩
  have := h2 r k hr
  rw [upd_other f q n (fun e => by rw [e, hq] at this; cases this)]
  exact this

/-- The open list's book: all that is noted is open, or done. -/
structure Book (c : List PI) (hs : List PH) (f : Nat → Option Nat) (o : List Nat) : Prop where
  known : Known c hs f
  opened : ∀ p ∈ o, p < c.length ∧ f p ≠ none
  done : ∀ p, f p ≠ none → p ∉ o → Done c f p

theorem Book.push {c : List PI} {hs : List PH} {f : Nat → Option Nat} {o : List Nat} (b : Book c hs f o) {p n : Nat} (hp : f p = none) (hl : p < c.length) (hk : Known c hs (upd f p n)) : Book c hs (upd f p n) (o ++ [p]) := by
  refine ⟨hk, fun q hq => ?_, fun q hq hn => ?_⟩
  · rcases List.mem_append.1 hq with h | h
    · have := b.opened q h
      exact ⟨this.1, by rw [upd_other f p n (fun e => by rw [e] at this; exact this.2 hp)]; exact this.2⟩
    · obtain rfl := List.mem_singleton.1 h
      exact ⟨hl, by rw [upd_same]; simp⟩
  · have hqp : q ≠ p := fun e => hn (by rw [e]; simp)
    rw [upd_other f p n hqp] at hq
    exact (b.done q hq (fun h => hn (List.mem_append.2 (Or.inl h)))).upd hp hq

/-- One that is open is being gone on from: the book but for it. -/
structure BookBut (c : List PI) (hs : List PH) (f : Nat → Option Nat) (o : List Nat) (x : Nat) : Prop where
  known : Known c hs f
  opened : ∀ p ∈ o, p < c.length ∧ f p ≠ none
  done : ∀ p, f p ≠ none → p ∉ o → p ≠ x → Done c f p

theorem Book.pop {c : List PI} {hs : List PH} {f : Nat → Option Nat} {o : List Nat} {x : Nat} (b : Book c hs f (o ++ [x])) : BookBut c hs f o x ∧ x < c.length ∧ ∃ n, f x = some n := by
  have hx := b.opened x (by simp)
  refine ⟨⟨b.known, fun p hp => b.opened p (by simp [hp]), fun p h1 h2 h3 => b.done p h1 (by simp [h2, h3])⟩, hx.1, ?_⟩
  cases e : f x with
  | none => exact absurd e hx.2
  | some n => exact ⟨n, rfl⟩
theorem BookBut.push {c : List PI} {hs : List PH} {f : Nat → Option Nat} {o : List Nat} {x : Nat} (b : BookBut c hs f o x) {p n : Nat} (hp : f p = none) (hl : p < c.length) (hk : Known c hs (upd f p n)) : BookBut c hs (upd f p n) (o ++ [p]) x := by
  refine ⟨hk, fun q hq => ?_, fun q hq hn hx => ?_⟩
  · rcases List.mem_append.1 hq with h | h
    · have := b.opened q h
      exact ⟨this.1, by rw [upd_other f p n (fun e => by rw [e] at this; exact this.2 hp)]; exact this.2⟩
    · obtain rfl := List.mem_singleton.1 h
      exact ⟨hl, by rw [upd_same]; simp⟩
  · have hqp : q ≠ p := fun e => hn (by rw [e]; simp)
    rw [upd_other f p n hqp] at hq
    exact (b.done q hq (fun h => hn (List.mem_append.2 (Or.inl h))) hx).upd hp hq
theorem BookBut.close {c : List PI} {hs : List PH} {f : Nat → Option Nat} {o : List Nat} {x : Nat} (b : BookBut c hs f o x) (hd : Done c f x) : Book c hs f o :=
  ⟨b.known, b.opened, fun p h1 h2 => by
    by_cases e : p = x
    · rw [e]; exact hd
    · exact b.done p h1 h2 e⟩

theorem Book.good {c : List PI} {hs : List PH} {f : Nat → Option Nat} (b : Book c hs f []) (h0 : f 0 = some 0) (hh : ∀ h ∈ hs, f h.tg.toNat = some 1) : ¬ BadWays c hs :=
  good_of_shut f h0 hh b.known.bound (fun p n i h1 h2 => b.done p (by rw [h1]; simp) (by simp) n i h1 h2)

theorem nexts_mem {i : PI} {p n q k : Nat} : (q, k) ∈ nexts i p n ↔ (0 ≤ goesTo i ∧ q = (goesTo i).toNat ∧ k = (n - takes i + there i).toNat) ∨ (goesOn i = true ∧ q = p + 1 ∧ k = (n - takes i + leaves i).toNat) := by
  unfold nexts
  rw [List.mem_append]
  constructor
  · rintro (h | h)
    · left
      split at h
      · rw [List.mem_singleton] at h
        cases h
        exact ⟨by assumption, rfl, rfl⟩
      · cases h
    · right
      split at h
      · rw [List.mem_singleton] at h
        cases h
        exact ⟨by assumption, rfl, rfl⟩
      · cases h
  · rintro (⟨h1, h2, h3⟩ | ⟨h1, h2, h3⟩)
    · left; rw [if_pos h1, h2, h3]; simp
    · right; rw [if_pos h1, h2, h3]; simp
end Go.Proofs.YtcbgcjkcfolcoaaDoor

namespace Go.Proofs.YtcbgcjkcfolcoaaDoor

/-- The class that is so many steps above (-1, or what is no class: it stays there). -/
def upN (A : List Int) : Nat → Int → Int
  | 0, k => k
  | n + 1, k => upN A n (if belowB k A.length then A.getD k.toNat (-1) else k)
def oneUp (A : List Int) (k : Int) : Int := if belowB k A.length then A.getD k.toNat (-1) else k
theorem upN_succ (A : List Int) (n : Nat) (k : Int) : upN A (n + 1) k = upN A n (oneUp A k) := rfl
theorem upN_add (A : List Int) : ∀ (a b : Nat) (k : Int), upN A (a + b) k = upN A b (upN A a k)
  | 0, b, k => by rw [Nat.zero_add]; rfl
  | a + 1, b, k => by
    rw [show a + 1 + b = (a + b) + 1 by omega, upN_succ, upN_succ, upN_add A a b]
theorem oneUp_out {A : List Int} {k : Int} (h : belowB k A.length = false) : oneUp A k = k := by simp [oneUp, h]
theorem upN_out {A : List Int} {k : Int} (h : belowB k A.length = false) : ∀ n, upN A n k = k
  | 0 => rfl
  | n + 1 => by rw [upN_succ, oneUp_out h, upN_out h n]

/-- All classes are under none, or under a class. -/
def Tied (A : List Int) : Prop := ∀ k, belowB k A.length = true → oneUp A k = -1 ∨ belowB (oneUp A k) A.length = true

theorem below_neg (n : Nat) : belowB (-1) n = false := by simp [belowB]

/-- Once it is at -1, it was a class all the way, up to the first time. -/
theorem upN_least {A : List Int} {k : Int} : ∀ s, upN A s k = -1 → ∃ t, t ≤ s ∧ upN A t k = -1 ∧ ∀ j, j < t → upN A j k ≠ -1
  | 0, h => ⟨0, Nat.le_refl _, h, fun j hj => by omega⟩
  | s + 1, h => by
    by_cases e : upN A s k = -1
    · obtain ⟨t, h1, h2, h3⟩ := upN_least s e
      exact ⟨t, by omega, h2, h3⟩
    · refine ⟨s + 1, Nat.le_refl _, h, fun j hj he => ?_⟩
      have : upN A s k = -1 := by
        rw [show s = j + (s - j) by omega, upN_add, he, upN_out (below_neg _)]
      exact e this

/-- Numbers below n without one twice: at most n. -/
theorem pigeon : ∀ (n : Nat) (l : List Int), l.Nodup → (∀ x ∈ l, 0 ≤ x ∧ x < n) → l.length ≤ n
  | 0, l, _, h => by
    cases l with
    | nil => exact Nat.le_refl _
    | cons x r => have := h x (by simp); omega
  | n + 1, l, hn, h => by
    by_cases hm : (n : Int) ∈ l
    · have h1 := pigeon n (l.erase n) (hn.erase _) (fun x hx => by
        have hx' := (hn.mem_erase_iff).1 hx
        have := h x hx'.2
        have : x ≠ n := hx'.1
        omega)
      have h2 := List.length_erase_of_mem hm
      omega
    · have := pigeon n l hn (fun x hx => by
        have h1 := h x hx
        have : x ≠ n := fun e => hm (e ▸ hx)
        omega)
      omega

/-- No class is met twice on a way that ends. -/
theorem upN_inj {A : List Int} {k : Int} {t : Nat} (ht : upN A t k = -1) (hl : ∀ j, j < t → upN A j k ≠ -1) {a b : Nat} (hab : a < b) (hb : b < t) : upN A a k ≠ upN A b k := by
  intro e
  have h1 : upN A (t - (b - a)) k = -1 := by
    rw [show t - (b - a) = a + (t - b) by omega, upN_add, e, ← upN_add, show b + (t - b) = t by omega]
    exact ht
  exact hl _ (by omega) h1

theorem nodup_map_range {f : Nat → Int} : ∀ t, (∀ a b, a < b → b < t → f a ≠ f b) → ((List.range t).map f).Nodup
  | 0, _ => by simp
  | t + 1, h => by
    rw [List.range_succ, List.map_append, List.map_singleton]
    refine List.nodup_append.2 ⟨nodup_map_range t fun a b h1 h2 => h a b h1 (by omega), by simp, fun x hx y hy => ?_⟩
    obtain ⟨a, ha, rfl⟩ := List.mem_map.1 hx
    obtain rfl := List.mem_singleton.1 hy
    exact h a t (List.mem_range.1 ha) (Nat.lt_succ_self t)

theorem upN_below {A : List Int} (hA : Tied A) {k : Int} (hk : belowB k A.length = true) : ∀ j, upN A j k = -1 ∨ belowB (upN A j k) A.length = true
  | 0 => Or.inr hk
  | j + 1 => by
    rcases upN_below hA hk j with h | h
    · left; rw [upN_add, h, upN_out (below_neg _)]
    · rw [upN_add]
      exact hA _ h

/-- A way that ends does so within so many steps as there are classes. -/
theorem upN_short {A : List Int} (hA : Tied A) {k : Int} (hk : belowB k A.length = true) {s : Nat} (hs : upN A s k = -1) : ∃ t, t ≤ A.length ∧ upN A t k = -1 ∧ ∀ j, j < t → upN A j k ≠ -1 := by
  obtain ⟨t, _, h2, h3⟩ := upN_least s hs
  refine ⟨t, ?_, h2, h3⟩
  have hn := nodup_map_range (f := fun j => upN A j k) t (fun a b hab hb => upN_inj h2 h3 hab hb)
  have := pigeon A.length _ hn (fun x hx => by
    obtain ⟨j, hj, rfl⟩ := List.mem_map.1 hx
    rcases upN_below hA hk j with h | h
    · exact absurd h (h3 j (List.mem_range.1 hj))
    · exact belowB_true h)
  simpa using this

/-- The program's answer: does one come to none within so many steps? -/
def endsP (A : List Int) : Nat → Int → Bool
  | 0, _ => false
  | n + 1, k => (oneUp A k == -1) || (belowB (oneUp A k) A.length && endsP A n (oneUp A k))
theorem endsP_iff {A : List Int} (hA : Tied A) : ∀ (n : Nat) {k : Int}, belowB k A.length = true → (endsP A n k = true ↔ ∃ t, t ≤ n ∧ upN A t k = -1)
  | 0, k, hk => by
    simp only [endsP, Bool.false_eq_true, false_iff]
    rintro ⟨t, h1, h2⟩
    obtain rfl : t = 0 := by omega
    have := belowB_true hk
    have : k = -1 := h2
    omega
  | n + 1, k, hk => by
    unfold endsP
    rcases hA k hk with h | h
    · simp only [h, beq_self_eq_true, Bool.true_or, true_iff]
      exact ⟨1, by omega, h⟩
    · have h1 : oneUp A k ≠ -1 := fun e => by rw [e, below_neg] at h; cases h
      have h2 : (oneUp A k == -1) = false := by simp [h1]
      rw [h2, h, Bool.false_or, Bool.true_and, endsP_iff hA n h]
      constructor
      · rintro ⟨t, h3, h4⟩
        exact ⟨t + 1, by omega, h4⟩
      · rintro ⟨t, h3, h4⟩
        cases t with
        | zero =>
          have := belowB_true hk
          have : k = -1 := h4
          omega
        | succ t => exact ⟨t, by omega, h4⟩

/-- The document's answer, from k on, at class i, when n steps were gone: is it above itself? (g: how many steps are left) -/
def roundP (A : List Int) (i : Int) : Nat → Nat → Int → Bool
  | 0, _, _ => false
  | g + 1, n, k => if belowB k A.length then (if k = i ∨ A.length < n then true else roundP A i g (n + 1) (oneUp A k)) else false

theorem upN_ends {A : List Int} {i : Int} {t n : Nat} (ht : upN A t i = -1) (h : t ≤ n) : upN A n i = -1 := by
  rw [show n = t + (n - t) by omega, upN_add, ht, upN_out (below_neg _)]

theorem roundP_iff {A : List Int} (hA : Tied A) {i : Int} (hi : belowB i A.length = true) : roundP A i (A.length + 2) 0 (oneUp A i) = true ↔ ∀ t, upN A t i ≠ -1 := by
  have gen : ∀ (g n : Nat) (k : Int), n + g = A.length + 2 → n ≤ A.length + 1 → k = upN A (n + 1) i → (roundP A i g n k = true ↔ ∀ t, upN A t i ≠ -1) := by
    intro g
    induction g with
    | zero => intro n k hg hn; omega
    | succ g ih =>
      intro n k hg hn hk
      unfold roundP
      by_cases hb : belowB k A.length = true
      · rw [if_pos hb]
        by_cases h1 : k = i ∨ A.length < n
        · rw [if_pos h1]
          simp only [true_iff]
          intro t ht
          obtain ⟨s, h2, h3, h4⟩ := upN_short hA hi ht
          have hlt : n + 1 < s := by
            rcases Nat.lt_or_ge (n + 1) s with h | h
            · exact h
            · have := upN_ends h3 h
              rw [← hk] at this
              rw [this, below_neg] at hb
              cases hb
          rcases h1 with h1 | h1
          · refine upN_inj h3 h4 (a := 0) (b := n + 1) (by omega) hlt ?_
            rw [← hk, h1]
            rfl
          · omega
        · rw [if_neg h1]
          exact ih (n + 1) _ (by omega) (by omega) (by rw [hk]; exact (upN_add A (n + 1) 1 i).symm)
      · rw [if_neg hb]
        simp only [Bool.false_eq_true, false_iff]
        intro h
        rcases upN_below hA hi (n + 1) with h1 | h1
        · exact h _ h1
        · rw [← hk] at h1
          exact hb h1
  exact gen (A.length + 2) 0 _ (by omega) (by omega) rfl

/-- Both say the same of a class. -/
theorem ends_round {A : List Int} (hA : Tied A) {i : Int} (hi : belowB i A.length = true) : endsP A A.length i = !roundP A i (A.length + 2) 0 (oneUp A i) := by
  have h1 := endsP_iff hA A.length hi
  have h2 := roundP_iff hA hi
  cases hr : roundP A i (A.length + 2) 0 (oneUp A i) with
  | true =>
    rw [Bool.not_true]
    have := h2.1 hr
    cases he : endsP A A.length i with
    | true => obtain ⟨t, _, h⟩ := h1.1 he; exact absurd h (this t)
    | false => rfl
  | false =>
    rw [Bool.not_false]
    apply h1.2
    rcases Classical.em (∀ t, upN A t i ≠ -1) with h | h
    · rw [h2.2 h] at hr; cases hr
    · obtain ⟨t, ht⟩ : ∃ t, upN A t i = -1 := by
        rcases Classical.em (∃ t, upN A t i = -1) with k | k
        · exact k
        · exact absurd (fun t e => k ⟨t, e⟩) h
      obtain ⟨s, a, b, _⟩ := upN_short hA hi ht
      exact ⟨s, a, b⟩

def aboves (m : PM) : List Int := m.classes.map (·.above)
theorem aboves_length (m : PM) : (aboves m).length = m.classes.length := by simp [aboves]

/-- The program's word on a class. -/
def classOk (m : PM) (i : Nat) (c : PK) : Bool := (c.names.length == c.meths.length) && c.meths.all (callB m) && endsP (aboves m) m.classes.length i
/-- The document's. -/
def classBad (m : PM) (i : Nat) (c : PK) : Bool :=
  let bad := !(inB c.above (-1) (m.classes.length - 1)) || (c.names.length != c.meths.length) || c.meths.any (fun f => !callB m f)
  bad || roundP (aboves m) i (m.classes.length + 2) 0 c.above

theorem oneUp_class {m : PM} {i : Nat} {c : PK} (h : m.classes[i]? = some c) : oneUp (aboves m) i = c.above := by
  have hl := (List.getElem?_eq_some_iff.1 h).1
  unfold oneUp
  rw [if_pos (by rw [aboves_length]; simp [belowB]; exact hl)]
  simp [aboves, List.getD, h]

theorem any_not_all {α : Type} (p : α → Bool) : ∀ l : List α, l.any (fun x => !p x) = !l.all p
  | [] => rfl
  | x :: l => by simp only [List.any_cons, List.all_cons, any_not_all p l, Bool.not_and]

/-- All classes are right by the program just if none is bad by the document. -/
theorem classes_alike (m : PM) : (∀ (i : Nat) (c : PK), m.classes[i]? = some c → classOk m i c = true) ↔ (∀ (i : Nat) (c : PK), m.classes[i]? = some c → classBad m i c = false) := by
  have up : ∀ (i : Nat) (c : PK), m.classes[i]? = some c → belowB i (aboves m).length = true := fun i c h => by
    have hl := (List.getElem?_eq_some_iff.1 h).1
    rw [aboves_length]; simp [belowB]; exact hl
  have tied : (∀ (i : Nat) (c : PK), m.classes[i]? = some c → inB c.above (-1) (m.classes.length - 1) = true) → Tied (aboves m) := by
    intro h k hk
    have hk' := belowB_true hk
    rw [aboves_length] at hk'
    have hi : m.classes[k.toNat]? = some (m.classes[k.toNat]'(by omega)) := List.getElem?_eq_getElem _
    have e := oneUp_class hi
    rw [show ((k.toNat : Nat) : Int) = k by omega] at e
    have h2 := inB_true (h _ _ hi)
    rw [e, aboves_length]
    by_cases h3 : (m.classes[k.toNat]'(by omega)).above = -1
    · exact Or.inl h3
    · right; simp [belowB]; omega
  constructor
  · intro h
    have ha : ∀ (i : Nat) (c : PK), m.classes[i]? = some c → inB c.above (-1) (m.classes.length - 1) = true := by
      intro i c hc
      have h1 := h i c hc
      unfold classOk at h1
      simp only [Bool.and_eq_true] at h1
      have h2 := h1.2
      rw [← aboves_length] at h2
      have hpos := (List.getElem?_eq_some_iff.1 hc).1
      obtain ⟨n, hn⟩ : ∃ n, (aboves m).length = n + 1 := ⟨m.classes.length - 1, by rw [aboves_length]; omega⟩
      rw [hn] at h2
      unfold endsP at h2
      rw [oneUp_class hc] at h2
      simp only [Bool.or_eq_true, Bool.and_eq_true, beq_iff_eq] at h2
      rcases h2 with h2 | h2
      · simp [inB, h2]; omega
      · have := belowB_true h2.1
        rw [aboves_length] at this
        simp [inB]; omega
    have hT := tied ha
    intro i c hc
    have h1 := h i c hc
    unfold classOk at h1
    simp only [Bool.and_eq_true, beq_iff_eq] at h1
    have h3 := ends_round hT (up i c hc)
    rw [oneUp_class hc, aboves_length, h1.2] at h3
    unfold classBad
    have h4 : roundP (aboves m) i (m.classes.length + 2) 0 c.above = false := by
      cases hr : roundP (aboves m) i (m.classes.length + 2) 0 c.above with
      | true => rw [hr] at h3; cases h3
      | false => rfl
    simp only [h4, ha i c hc, any_not_all, h1.1.2, h1.1.1, bne_self_eq_false, Bool.not_true, Bool.or_self]
  · intro h
    have ha : ∀ (i : Nat) (c : PK), m.classes[i]? = some c → inB c.above (-1) (m.classes.length - 1) = true := by
      intro i c hc
      have h1 := h i c hc
      unfold classBad at h1
      simp only [Bool.or_eq_false_iff, Bool.not_eq_false'] at h1
      exact h1.1.1.1
    have hT := tied ha
    intro i c hc
    have h1 := h i c hc
    unfold classBad at h1
    simp only [Bool.or_eq_false_iff, any_not_all, Bool.not_eq_false', bne_eq_false_iff_eq] at h1
    have h3 := ends_round hT (up i c hc)
    rw [oneUp_class hc, aboves_length, h1.2] at h3
    unfold classOk
    rw [h3, h1.1.2]
    simp [h1.1.1.2]
end Go.Proofs.YtcbgcjkcfolcoaaDoor

namespace Go.Proofs.YtcbgcjkcfolcoaaDoor

def sizeOk (f : PF) : Bool := inB f.code.length 1 5000 && inB f.params 0 8 && inB f.slots f.params 200
def spanOk (n : Nat) (fr to : Int) : Bool := decide (0 ≤ fr ∧ fr ≤ to ∧ to ≤ n)
def handOk (n : Nat) (h : PH) : Bool := spanOk n h.fr h.to && belowB h.tg n
def varOk (slots : Int) (n : Nat) (v : PV) : Bool := belowB v.slot slots && spanOk n v.fr v.to
def namesOk (m : PM) (f : PF) : Bool := f.code.all (nameOk m f.slots f.code.length) && f.hands.all (handOk f.code.length) && f.vars.all (varOk f.slots f.code.length)

/-- What is wrong with a function (0: nothing). -/
def FnErr (m : PM) (f : PF) (e : Int) : Prop :=
  (sizeOk f = false ∧ e = 4) ∨ (sizeOk f = true ∧ namesOk m f = false ∧ e = 2) ∨ (sizeOk f = true ∧ namesOk m f = true ∧ BadWays f.code f.hands ∧ e = 3) ∨ (sizeOk f = true ∧ namesOk m f = true ∧ ¬ BadWays f.code f.hands ∧ e = 0)
theorem FnErr.one {m : PM} {f : PF} {a b : Int} (h : FnErr m f a) (k : FnErr m f b) : a = b := by
  rcases h with ⟨h1, rfl⟩ | ⟨h1, h2, rfl⟩ | ⟨h1, h2, h3, rfl⟩ | ⟨h1, h2, h3, rfl⟩ <;> rcases k with ⟨k1, rfl⟩ | ⟨k1, k2, rfl⟩ | ⟨k1, k2, k3, rfl⟩ | ⟨k1, k2, k3, rfl⟩
  all_goals first
    | rfl
    | exact absurd (h1.symm.trans k1) (by decide)
    | exact absurd (h2.symm.trans k2) (by decide)
    | exact absurd h3 k3
    | exact absurd k3 h3

def limitOk (m : PM) : Bool := inB m.funcs.length 1 250 && decide (m.consts.length ≤ 1000) && decide (m.classes.length ≤ 250)
def ClassesOk (m : PM) : Prop := ∀ (i : Nat) (c : PK), m.classes[i]? = some c → classOk m i c = true

/-- What is wrong with an image, and in which function (-1: in none). -/
def Verdict (m : PM) (e p : Int) : Prop :=
  (limitOk m = false ∧ e = 4 ∧ p = -1) ∨ (limitOk m = true ∧ ¬ ClassesOk m ∧ e = 2 ∧ p = -1) ∨
  (limitOk m = true ∧ ClassesOk m ∧ ((∃ (i : Nat) (f : PF), m.funcs[i]? = some f ∧ FnErr m f e ∧ e ≠ 0 ∧ p = i ∧ ∀ (j : Nat) (g : PF), j < i → m.funcs[j]? = some g → FnErr m g 0) ∨ (e = 0 ∧ p = -1 ∧ ∀ (j : Nat) (g : PF), m.funcs[j]? = some g → FnErr m g 0)))
theorem Verdict.one {m : PM} {e p e' p' : Int} (h : Verdict m e p) (k : Verdict m e' p') : e = e' ∧ p = p' := by
  rcases h with ⟨h1, rfl, rfl⟩ | ⟨h1, h2, rfl, rfl⟩ | ⟨h1, h2, h3⟩ <;> rcases k with ⟨k1, rfl, rfl⟩ | ⟨k1, k2, rfl, rfl⟩ | ⟨k1, k2, k3⟩
  all_goals first
    | exact ⟨rfl, rfl⟩
    | exact absurd (h1.symm.trans k1) (by decide)
    | exact absurd h2 k2
    | exact absurd k2 h2
    | skip
  rcases h3 with ⟨i, f, a1, a2, a3, rfl, a5⟩ | ⟨rfl, rfl, a5⟩ <;> rcases k3 with ⟨j, g, b1, b2, b3, rfl, b5⟩ | ⟨rfl, rfl, b5⟩
  · rcases Nat.lt_trichotomy i j with hij | hij | hij
    · exact absurd (a2.one (b5 i f hij a1)) a3
    · subst hij
      rw [a1] at b1
      cases b1
      exact ⟨a2.one b2, rfl⟩
    · exact absurd (b2.one (a5 j g hij b1)) b3
  · exact absurd (a2.one (b5 i f a1)) a3
  · exact absurd (b2.one (a5 j g b1)) b3
  · exact ⟨rfl, rfl⟩
end Go.Proofs.YtcbgcjkcfolcoaaDoor
