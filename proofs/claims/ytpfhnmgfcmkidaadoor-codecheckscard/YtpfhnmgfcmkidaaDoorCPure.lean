/-
  Images as plain data; the ways through a function's code.
-/
namespace Go.Proofs.YtpfhnmgfcmkidaaDoor

structure PI where
  op : Int
  a : Int
  b : Int
structure PH where
  fr : Int
  to : Int
  tg : Int
structure PV where
  name : ByteArray
  slot : Int
  fr : Int
  to : Int
  boxed : Bool
structure PF where
  name : ByteArray
  params : Int
  slots : Int
  code : List PI
  hands : List PH
  vars : List PV
structure PC where
  text : Bool
  s : ByteArray
  n : Int
structure PK where
  name : ByteArray
  above : Int
  fields : List ByteArray
  names : List ByteArray
  meths : List Int
structure PM where
  funcs : List PF
  consts : List PC
  classes : List PK

/-- Is n from low to top? -/
def inB (n low top : Int) : Bool := decide (low ≤ n ∧ n ≤ top)
/-- Is n one of so many? -/
def belowB (n many : Int) : Bool := decide (0 ≤ n ∧ n < many)
theorem belowB_true {n m : Int} (h : belowB n m = true) : 0 ≤ n ∧ n < m := by simpa [belowB] using h
theorem belowB_false {n m : Int} (h : belowB n m = false) : n < 0 ∨ m ≤ n := by
  simp [belowB] at h; omega
theorem inB_true {n l t : Int} (h : inB n l t = true) : l ≤ n ∧ n ≤ t := by simpa [inB] using h
theorem inB_false {n l t : Int} (h : inB n l t = false) : n < l ∨ t < n := by
  simp [inB] at h; omega
theorem inB_below (n m : Int) : inB n 0 (m - 1) = belowB n m := by
  unfold inB belowB; apply decide_eq_decide.2; omega

def constAt (m : PM) (k : Int) : PC := m.consts.getD k.toNat ⟨false, ByteArray.empty, 0⟩
def funcAt (m : PM) (k : Int) : PF := m.funcs.getD k.toNat ⟨ByteArray.empty, 0, 0, [], [], []⟩
def isText (m : PM) (k : Int) : Bool := belowB k m.consts.length && (constAt m k).text
def fewB (n : Int) : Bool := inB n 0 50
def callB (m : PM) (k : Int) : Bool := (k != 0) && belowB k m.funcs.length

/-- Which kind of names an operation has. -/
def namesOf (op : Int) : Nat :=
  if op = 2 then 1
  else if op = 6 ∨ op = 7 ∨ op = 8 ∨ op = 9 ∨ op = 10 then 2
  else if op = 11 ∨ op = 12 ∨ op = 13 ∨ op = 29 then 3
  else if op = 15 ∨ op = 16 ∨ op = 17 ∨ op = 18 then 4
  else if op = 32 ∨ op = 33 then 5
  else if op = 34 then 6
  else if op = 35 then 7
  else if op = 36 then 8
  else if op = 37 then 9
  else if op = 38 then 10
  else if op = 39 then 11
  else if 1 ≤ op ∧ op ≤ 45 then 0
  else 12

/-- Is there what an instruction names? -/
def nameOk (m : PM) (slots : Int) (len : Nat) (i : PI) : Bool :=
  match namesOf i.op with
  | 0 => true
  | 1 => belowB i.a m.consts.length
  | 2 => belowB i.a slots
  | 3 => fewB i.a
  | 4 => belowB i.a len
  | 5 => isText m i.a
  | 6 => isText m i.a && fewB i.b
  | 7 => isText m i.a && decide (0 ≤ i.b) && belowB (i.b.tdiv 64) m.classes.length && fewB (i.b.tmod 64)
  | 8 => belowB i.a m.classes.length && fewB i.b
  | 9 => fewB i.b
  | 10 => callB m i.a && (i.b == (funcAt m i.a).params) && fewB i.b
  | 11 => callB m i.a && fewB i.b
  | _ => false

/-- How many values an instruction takes. -/
def takes (i : PI) : Int :=
  if i.op = 7 ∨ i.op = 8 ∨ i.op = 10 ∨ i.op = 13 ∨ i.op = 14 ∨ i.op = 40 ∨ i.op = 41 ∨ i.op = 42 ∨ i.op = 16 ∨ i.op = 17 ∨ i.op = 18 ∨ i.op = 19 ∨ i.op = 20 ∨ i.op = 21 ∨ i.op = 44 ∨ i.op = 32 then 1
  else if i.op = 22 ∨ i.op = 23 ∨ i.op = 24 ∨ i.op = 25 ∨ i.op = 26 ∨ i.op = 27 ∨ i.op = 28 ∨ i.op = 30 ∨ i.op = 33 then 2
  else if i.op = 31 then 3
  else if i.op = 29 then i.a
  else if i.op = 34 ∨ i.op = 37 then i.b + 1
  else if i.op = 35 then i.b.tmod 64 + 1
  else if i.op = 36 ∨ i.op = 38 ∨ i.op = 39 then i.b
  else 0
/-- How many it leaves where it goes on. -/
def leaves (i : PI) : Int :=
  if i.op = 2 ∨ i.op = 3 ∨ i.op = 4 ∨ i.op = 5 ∨ i.op = 43 ∨ i.op = 6 ∨ i.op = 9 ∨ i.op = 11 ∨ i.op = 12 ∨ i.op = 19 ∨ i.op = 20 ∨ i.op = 21 ∨ i.op = 44 ∨ i.op = 32 ∨ i.op = 22 ∨ i.op = 23 ∨ i.op = 24 ∨ i.op = 25 ∨ i.op = 26 ∨ i.op = 27 ∨ i.op = 28 ∨ i.op = 30 ∨ i.op = 29 ∨ i.op = 34 ∨ i.op = 37 ∨ i.op = 35 ∨ i.op = 36 ∨ i.op = 38 ∨ i.op = 39 then 1 else 0
/-- Where else it goes (-1: nowhere). -/
def goesTo (i : PI) : Int := if i.op = 15 ∨ i.op = 16 ∨ i.op = 17 ∨ i.op = 18 then i.a else -1
/-- What it leaves there. -/
def there (i : PI) : Int := if i.op = 17 ∨ i.op = 18 then 1 else 0
/-- Does it go on behind itself? -/
def goesOn (i : PI) : Bool := !(i.op == 15 || i.op == 40 || i.op == 41)

theorem op_cases (op : Int) (h1 : 1 ≤ op) (h2 : op ≤ 45) : op = 1 ∨ op = 2 ∨ op = 3 ∨ op = 4 ∨ op = 5 ∨ op = 6 ∨ op = 7 ∨ op = 8 ∨ op = 9 ∨ op = 10 ∨ op = 11 ∨ op = 12 ∨ op = 13 ∨ op = 14 ∨ op = 15 ∨ op = 16 ∨ op = 17 ∨ op = 18 ∨ op = 19 ∨ op = 20 ∨ op = 21 ∨ op = 22 ∨ op = 23 ∨ op = 24 ∨ op = 25 ∨ op = 26 ∨ op = 27 ∨ op = 28 ∨ op = 29 ∨ op = 30 ∨ op = 31 ∨ op = 32 ∨ op = 33 ∨ op = 34 ∨ op = 35 ∨ op = 36 ∨ op = 37 ∨ op = 38 ∨ op = 39 ∨ op = 40 ∨ op = 41 ∨ op = 42 ∨ op = 43 ∨ op = 44 ∨ op = 45 := by omega

theorem nameOk_op {m : PM} {s : Int} {n : Nat} {i : PI} (h : nameOk m s n i = true) : 1 ≤ i.op ∧ i.op ≤ 45 := by
  rcases Decidable.em (1 ≤ i.op ∧ i.op ≤ 45) with k | k
  · exact k
  · have : namesOf i.op = 12 := by
      unfold namesOf
      repeat (first | rw [if_neg (by omega)] | rfl)
    unfold nameOk at h
    rw [this] at h
    cases h

theorem takes_bound {m : PM} {s : Int} {n : Nat} {i : PI} (h : nameOk m s n i = true) : 0 ≤ takes i ∧ takes i ≤ 51 := by
  obtain ⟨h1, h2⟩ := nameOk_op h
  obtain ⟨op, a, b⟩ := i
  rcases op_cases op h1 h2 with rfl|rfl|rfl|rfl|rfl|rfl|rfl|rfl|rfl|rfl|rfl|rfl|rfl|rfl|rfl|rfl|rfl|rfl|rfl|rfl|rfl|rfl|rfl|rfl|rfl|rfl|rfl|rfl|rfl|rfl|rfl|rfl|rfl|rfl|rfl|rfl|rfl|rfl|rfl|rfl|rfl|rfl|rfl|rfl|rfl
  all_goals first
    | (simp [takes]; done)
    | (simp [nameOk, namesOf, fewB, inB] at h; simp [takes]; omega)

theorem leaves_bound (i : PI) : 0 ≤ leaves i ∧ leaves i ≤ 1 := by
  unfold leaves; split <;> omega
theorem there_bound (i : PI) : 0 ≤ there i ∧ there i ≤ 1 := by
  unfold there; split <;> omega

theorem goesTo_bound {m : PM} {s : Int} {n : Nat} {i : PI} (h : nameOk m s n i = true) : goesTo i = -1 ∨ (0 ≤ goesTo i ∧ goesTo i < n) := by
  unfold goesTo
  split
  · right
    rename_i k
    have e : namesOf i.op = 4 := by
      unfold namesOf
      rcases k with k | k | k | k <;> rw [k] <;> rfl
    unfold nameOk at h
    rw [e] at h
    exact belowB_true h
  · exact Or.inl rfl

/-- Where one comes from an instruction, and with how many values. -/
def nexts (i : PI) (p n : Nat) : List (Nat × Nat) :=
  (if 0 ≤ goesTo i then [((goesTo i).toNat, (n - takes i + there i).toNat)] else []) ++ (if goesOn i then [(p + 1, (n - takes i + leaves i).toNat)] else [])

/-- A set of pairs that the ways never leave. -/
structure Shut (c : List PI) (hs : List PH) (S : Nat → Nat → Prop) : Prop where
  start : S 0 0
  hand : ∀ h ∈ hs, S h.tg.toNat 1
  next : ∀ p n i, S p n → c[p]? = some i → takes i ≤ n → ∀ q k, (q, k) ∈ nexts i p n → S q k
/-- One comes to instruction p with n values. -/
def Reach (c : List PI) (hs : List PH) (p n : Nat) : Prop := ∀ S, Shut c hs S → S p n
theorem Reach.start (c : List PI) (hs : List PH) : Reach c hs 0 0 := fun _ h => h.start
theorem Reach.hand {c : List PI} {hs : List PH} {h : PH} (k : h ∈ hs) : Reach c hs h.tg.toNat 1 := fun _ s => s.hand h k
theorem Reach.next {c : List PI} {hs : List PH} {p n : Nat} {i : PI} (r : Reach c hs p n) (hi : c[p]? = some i) (ht : takes i ≤ n) {q k : Nat} (hq : (q, k) ∈ nexts i p n) : Reach c hs q k :=
  fun S s => s.next p n i (r S s) hi ht q k hq
/-- What may not be. -/
def Wrong (c : List PI) (hs : List PH) (p n : Nat) : Prop :=
  c.length ≤ p ∨ 200 < n ∨ (∃ i, c[p]? = some i ∧ (n : Int) < takes i) ∨ ∃ k, Reach c hs p k ∧ k ≠ n
def BadWays (c : List PI) (hs : List PH) : Prop := ∃ p n, Reach c hs p n ∧ Wrong c hs p n

/-- What is known of an instruction: how many values there are. -/
theorem good_of_shut {c : List PI} {hs : List PH} (f : Nat → Option Nat) (h0 : f 0 = some 0) (hh : ∀ h ∈ hs, f h.tg.toNat = some 1)
    (hb : ∀ p n, f p = some n → p < c.length ∧ n ≤ 200)
    (hn : ∀ p n i, f p = some n → c[p]? = some i → takes i ≤ n ∧ ∀ q k, (q, k) ∈ nexts i p n → f q = some k) : ¬ BadWays c hs := by
  have hs' : Shut c hs (fun p n => f p = some n) := ⟨h0, hh, fun p n i h1 h2 _ q k h4 => (hn p n i h1 h2).2 q k h4⟩
  rintro ⟨p, n, r, w⟩
  have e : f p = some n := r _ hs'
  have hb' := hb p n e
  rcases w with h | h | ⟨i, h1, h2⟩ | ⟨k, h1, h2⟩
  · omega
  · omega
  · have := (hn p n i e h1).1
    omega
  · have e2 : f p = some k := h1 _ hs'
    rw [e] at e2
    exact h2 (Option.some.inj e2).symm

end Go.Proofs.YtpfhnmgfcmkidaaDoor
