/-
  The reader of programs as plain functions.
  The reader of programs as plain functions: statements and values.
  The reader of programs as plain functions: values, and depth.
  Lists of nodes that are being made.
  Lists with commas between.
-/
import Derived.Test.YtjcoobkpmpjpbaaGreatDoorM06
namespace Go.Proofs.YtjcoobkpmpjpbaaGreatDoor
open Go.RowKit

theorem bnd_some {α β : Type} {t : Res α} {k : α → LS → Res β} {x : β × LS} (h : bnd t k = .inr x) : ∃ a S, t = .inr (a, S) ∧ k a S = .inr x := by
  cases ht : t with
  | inl f => rw [ht] at h; cases h
  | inr y => rw [ht] at h; exact ⟨y.1, y.2, rfl, h⟩

/-- Behind what was read the reader stands further on. -/
structure On (S S' : LS) : Prop where
  ok : Ok S'
  same : Same S S'
  tp : S.tp < S'.tp
structure On0 (S S' : LS) : Prop where
  ok : Ok S'
  same : Same S S'
  tp : S.tp ≤ S'.tp
theorem On.weak {S S' : LS} (h : On S S') : On0 S S' := ⟨h.ok, h.same, Nat.le_of_lt h.tp⟩
theorem On0.refl {S : LS} (h : Ok S) : On0 S S := ⟨h, Same.refl S, Nat.le_refl _⟩
theorem On0.trans {a b c : LS} (h : On0 a b) (k : On0 b c) : On0 a c := ⟨k.ok, h.same.trans k.same, Nat.le_trans h.tp k.tp⟩
theorem On.trans0 {a b c : LS} (h : On a b) (k : On0 b c) : On a c := ⟨k.ok, h.same.trans k.same, Nat.lt_of_lt_of_le h.tp k.tp⟩
theorem On0.trans1 {a b c : LS} (h : On0 a b) (k : On b c) : On a c := ⟨k.ok, h.same.trans k.same, Nat.lt_of_le_of_lt h.tp k.tp⟩
theorem On.trans {a b c : LS} (h : On a b) (k : On b c) : On a c := h.trans0 k.weak

def Good {α : Type} (P : LS → Res α) : Prop := ∀ S a S', Ok S → P S = .inr (a, S') → On S S'
def Good0 {α : Type} (P : LS → Res α) : Prop := ∀ S a S', Ok S → P S = .inr (a, S') → On0 S S'
theorem Good.weak {α : Type} {P : LS → Res α} (h : Good P) : Good0 P := fun S a S' ok e => (h S a S' ok e).weak

theorem take_on {S S' : LS} {a : Unit} (ok : Ok S) (hk : S.kd ≠ 0) (h : takeP S = .inr (a, S')) : On S S' := by
  have := advP_ok ok.fit (takeP_ok h)
  exact ⟨this.1, this.2.2, Nat.lt_of_lt_of_le (ok.now hk) this.2.1⟩
theorem is_kd {S : LS} {m : ByteArray} (h : S.is m = true) : S.kd ≠ 0 := by
  unfold LS.is at h
  simp at h
  omega
theorem accept_on {S S' : LS} {m : ByteArray} {b : Bool} (ok : Ok S) (h : acceptP m S = .inr (b, S')) : On0 S S' ∧ (b = true → On S S') ∧ (b = false → S' = S) := by
  unfold acceptP at h
  split at h
  · rename_i hi
    obtain ⟨a, S1, h1, h2⟩ := bnd_some h
    cases h2
    have := take_on ok (is_kd hi) h1
    exact ⟨this.weak, fun _ => this, fun e => absurd e (by decide)⟩
  · cases h
    exact ⟨On0.refl ok, fun e => absurd e (by decide), fun _ => rfl⟩
theorem want_on {S S' : LS} {m : ByteArray} {a : Unit} (ok : Ok S) (h : wantP m S = .inr (a, S')) : On S S' := by
  unfold wantP at h
  split at h
  · rename_i hi
    exact take_on ok (is_kd hi) h
  · cases h
theorem name_on {S S' : LS} {s : ByteArray} (ok : Ok S) (h : nameP S = .inr (s, S')) : On S S' := by
  unfold nameP at h
  split at h
  · rename_i hi
    obtain ⟨a, S1, h1, h2⟩ := bnd_some h
    cases h2
    exact take_on ok (by omega) h1
  · cases h
theorem limit_on {S S' : LS} {n : Nat} {a : Unit} (h : limitP n S = .inr (a, S')) : S' = S := by
  unfold limitP at h
  split at h
  · cases h
  · cases h; rfl

/-- What reads a value, a statement, and a part behind - or !, one deeper. -/
structure Low where
  V : LS → Res Tree
  S : LS → Res Tree
  N : LS → Res Tree

structure LowGood (L : Low) : Prop where
  v : Good L.V
  s : Good L.S
  n : Good L.N

def leafP (k : Nat) (S : LS) : Res Tree := bnd (takeP S) fun _ S1 => .inr (⟨k, S.tx, noText, S.nn, S.tl, []⟩, S1)
def paramP (S : LS) : Res Tree := bnd (nameP S) fun s S1 => .inr (⟨24, s, noText, 0, S.tl, []⟩, S1)
theorem paramP_good : Good paramP := fun S a S' ok h => by
  obtain ⟨s, S1, h1, h2⟩ := bnd_some h
  cases h2
  exact name_on ok h1

def tComma : ByteArray := ⟨#[44]⟩
def tOpen : ByteArray := ⟨#[40]⟩
def tShut : ByteArray := ⟨#[41]⟩
def tLeft : ByteArray := ⟨#[123]⟩
def tRight : ByteArray := ⟨#[125]⟩
def tSquare : ByteArray := ⟨#[91]⟩
def tSquared : ByteArray := ⟨#[93]⟩
def tSemi : ByteArray := ⟨#[59]⟩
def tDot : ByteArray := ⟨#[46]⟩
def tEqual : ByteArray := ⟨#[61]⟩
def tLess : ByteArray := ⟨#[60]⟩
def tMinus : ByteArray := ⟨#[45]⟩
def tNot : ByteArray := ⟨#[33]⟩

def listLoop (shut : ByteArray) (P : LS → Res Tree) : Nat → List Tree → LS → Res (List Tree)
  | 0, _, S => .inl (0, S.tp)
  | f + 1, acc, S => bnd (limitP acc.length S) fun _ S0 => bnd (P S0) fun t S1 => bnd (acceptP shut S1) fun b S2 =>
    if b = true then .inr (acc ++ [t], S2) else bnd (wantP tComma S2) fun _ S3 => listLoop shut P f (acc ++ [t]) S3
def listedP (shut : ByteArray) (P : LS → Res Tree) (S : LS) : Res (List Tree) := bnd (acceptP shut S) fun b S1 => if b = true then .inr ([], S1) else listLoop shut P 9 [] S1

theorem listLoop_on {shut : ByteArray} {P : LS → Res Tree} (hP : Good P) : ∀ (f : Nat) (acc l : List Tree) (S S' : LS), Ok S → listLoop shut P f acc S = .inr (l, S') → On S S'
  | 0, acc, l, S, S', ok, h => by cases h
  | f + 1, acc, l, S, S', ok, h => by
    rw [listLoop] at h
    obtain ⟨_, S0, h0, h'⟩ := bnd_some h
    clear h
    obtain rfl := limit_on h0
    obtain ⟨t, S1, h1, h⟩ := bnd_some h'
    have o1 := hP _ _ _ ok h1
    obtain ⟨b, S2, h2, h⟩ := bnd_some h
    have o2 := accept_on o1.ok h2
    split at h
    · cases h
      exact o1.trans0 o2.1
    · obtain ⟨_, S3, h3, h⟩ := bnd_some h
      have o3 := want_on o2.1.ok h3
      exact ((o1.trans0 o2.1).trans o3).trans (listLoop_on hP f _ l S3 S' o3.ok h)
theorem listedP_good {shut : ByteArray} {P : LS → Res Tree} (hP : Good P) : Good (listedP shut P) := fun S l S' ok h => by
  obtain ⟨b, S1, h1, h'⟩ := bnd_some h
  clear h
  have o1 := accept_on ok h1
  cases b with
  | true =>
    cases h'
    exact o1.2.1 rfl
  | false =>
    obtain rfl := o1.2.2 rfl
    exact listLoop_on hP _ _ _ _ _ ok h'

def paramsP (S : LS) : Res Tree := bnd (wantP tOpen S) fun _ S1 => bnd (listedP tShut paramP S1) fun ks S2 => .inr (⟨6, noText, noText, 0, S.tl, ks⟩, S2)
theorem paramsP_good : Good paramsP := fun S a S' ok h => by
  obtain ⟨_, S1, h1, h⟩ := bnd_some h
  obtain ⟨ks, S2, h2, h⟩ := bnd_some h
  cases h
  exact (want_on ok h1).trans (listedP_good paramP_good _ _ _ (want_on ok h1).ok h2)

/-- Parts one behind the other up to a sign. -/
def untilP (shut : ByteArray) (P : LS → Res Tree) : Nat → List Tree → LS → Res (List Tree)
  | 0, _, S => .inl (0, S.tp)
  | f + 1, acc, S => bnd (acceptP shut S) fun b S1 => if b = true then .inr (acc, S1) else bnd (P S1) fun t S2 => untilP shut P f (acc ++ [t]) S2
theorem untilP_on {shut : ByteArray} {P : LS → Res Tree} (hP : Good P) : ∀ (f : Nat) (acc l : List Tree) (S S' : LS), Ok S → untilP shut P f acc S = .inr (l, S') → On S S'
  | 0, acc, l, S, S', ok, h => by cases h
  | f + 1, acc, l, S, S', ok, h => by
    rw [untilP] at h
    obtain ⟨b, S1, h1, h'⟩ := bnd_some h
    clear h
    have o1 := accept_on ok h1
    cases b with
    | true => cases h'; exact o1.2.1 rfl
    | false =>
      obtain rfl := o1.2.2 rfl
      obtain ⟨t, S2, h2, h⟩ := bnd_some h'
      have o2 := hP _ _ _ ok h2
      exact o2.trans (untilP_on hP f _ l S2 S' o2.ok h)

def blockP (L : Low) (S : LS) : Res Tree := bnd (wantP tLeft S) fun _ S1 => bnd (untilP tRight L.S 3002 [] S1) fun ks S2 => .inr (⟨7, noText, noText, 0, S.tl, ks⟩, S2)
theorem blockP_good {L : Low} (hL : LowGood L) : Good (blockP L) := fun S a S' ok h => by
  obtain ⟨_, S1, h1, h⟩ := bnd_some h
  obtain ⟨ks, S2, h2, h⟩ := bnd_some h
  cases h
  exact (want_on ok h1).trans (untilP_on hL.s _ _ _ _ _ (want_on ok h1).ok h2)

/-- Parameters, and a block. -/
def bodyP (L : Low) (S : LS) : Res (Tree × Tree) := bnd (paramsP S) fun p S1 => bnd (blockP L S1) fun b S2 => .inr ((p, b), S2)
theorem bodyP_good {L : Low} (hL : LowGood L) : Good (bodyP L) := fun S a S' ok h => by
  obtain ⟨p, S1, h1, h⟩ := bnd_some h
  obtain ⟨b, S2, h2, h⟩ := bnd_some h
  cases h
  have o1 := paramsP_good _ _ _ ok h1
  exact o1.trans (blockP_good hL _ _ _ o1.ok h2)

def inParP (L : Low) (S : LS) : Res Tree := bnd (wantP tOpen S) fun _ S1 => bnd (L.V S1) fun t S2 => bnd (wantP tShut S2) fun _ S3 => .inr (t, S3)
theorem inParP_good {L : Low} (hL : LowGood L) : Good (inParP L) := fun S a S' ok h => by
  obtain ⟨_, S1, h1, h⟩ := bnd_some h
  obtain ⟨t, S2, h2, h⟩ := bnd_some h
  obtain ⟨_, S3, h3, h⟩ := bnd_some h
  cases h
  have o1 := want_on ok h1
  have o2 := hL.v _ _ _ o1.ok h2
  exact (o1.trans o2).trans (want_on o2.ok h3)

def argsP (L : Low) (S : LS) : Res (List Tree) := listedP tShut L.V S

/-- A node of one kind whose first token is taken, and what is read behind it. -/
def takenThen {α : Type} (S : LS) (k : LS → Res α) : Res α := bnd (takeP S) fun _ S1 => k S1

end Go.Proofs.YtjcoobkpmpjpbaaGreatDoor

namespace Go.Proofs.YtjcoobkpmpjpbaaGreatDoor
open Go.RowKit

def tk (l : List UInt8) : ByteArray := ⟨l.toArray⟩
def wClass : ByteArray := ⟨#[99, 108, 97, 115, 115]⟩
def wField : ByteArray := ⟨#[102, 105, 101, 108, 100]⟩
def wFn : ByteArray := ⟨#[102, 110]⟩
def wVar : ByteArray := ⟨#[118, 97, 114]⟩
def wIf : ByteArray := ⟨#[105, 102]⟩
def wElse : ByteArray := ⟨#[101, 108, 115, 101]⟩
def wWhile : ByteArray := ⟨#[119, 104, 105, 108, 101]⟩
def wReturn : ByteArray := ⟨#[114, 101, 116, 117, 114, 110]⟩
def wThrow : ByteArray := ⟨#[116, 104, 114, 111, 119]⟩
def wTry : ByteArray := ⟨#[116, 114, 121]⟩
def wCatch : ByteArray := ⟨#[99, 97, 116, 99, 104]⟩
def wPrint : ByteArray := ⟨#[112, 114, 105, 110, 116]⟩
def wTrue : ByteArray := ⟨#[116, 114, 117, 101]⟩
def wFalse : ByteArray := ⟨#[102, 97, 108, 115, 101]⟩
def wNil : ByteArray := ⟨#[110, 105, 108]⟩
def wThis : ByteArray := ⟨#[116, 104, 105, 115]⟩
def wNew : ByteArray := ⟨#[110, 101, 119]⟩
def wSuper : ByteArray := ⟨#[115, 117, 112, 101, 114]⟩
def wInput : ByteArray := ⟨#[105, 110, 112, 117, 116]⟩
def wLen : ByteArray := ⟨#[108, 101, 110]⟩

def nd (k ln : Nat) (ks : List Tree) : Tree := ⟨k, noText, noText, 0, ln, ks⟩
def ndT (k : Nat) (s : ByteArray) (ln : Nat) (ks : List Tree) : Tree := ⟨k, s, noText, 0, ln, ks⟩

def closeP (P : LS → Res Tree) (S : LS) : Res Tree := bnd (P S) fun t S1 => bnd (wantP tSemi S1) fun _ S2 => .inr (t, S2)
theorem closeP_good {P : LS → Res Tree} (hP : Good P) : Good (closeP P) := fun S a S' ok h => by
  obtain ⟨t, S1, h1, h⟩ := bnd_some h
  obtain ⟨_, S2, h2, h⟩ := bnd_some h
  cases h
  have o1 := hP _ _ _ ok h1
  exact o1.trans (want_on o1.ok h2)

def methodP (L : Low) (S : LS) : Res Tree := bnd (nameP S) fun s S2 => bnd (bodyP L S2) fun pb S3 => .inr (ndT 4 s S.tl [pb.1, pb.2], S3)
theorem methodP_good {L : Low} (hL : LowGood L) : Good (methodP L) := fun S a S' ok h => by
  obtain ⟨s, S1, h1, h⟩ := bnd_some h
  obtain ⟨pb, S2, h2, h⟩ := bnd_some h
  cases h
  have o1 := name_on ok h1
  exact o1.trans (bodyP_good hL _ _ _ o1.ok h2)
def fnP (L : Low) (S : LS) : Res Tree := bnd (takeP S) fun _ S1 => bnd (nameP S1) fun s S2 => bnd (bodyP L S2) fun pb S3 => .inr (ndT 5 s S.tl [pb.1, pb.2], S3)
theorem fnP_on {L : Low} (hL : LowGood L) {S S' : LS} {a : Tree} (ok : Ok S) (hk : S.kd ≠ 0) (h : fnP L S = .inr (a, S')) : On S S' := by
  obtain ⟨_, S1, h1, h⟩ := bnd_some h
  obtain ⟨s, S2, h2, h⟩ := bnd_some h
  obtain ⟨pb, S3, h3, h⟩ := bnd_some h
  cases h
  have o1 := take_on ok hk h1
  have o2 := name_on o1.ok h2
  exact (o1.trans o2).trans (bodyP_good hL _ _ _ o2.ok h3)
def lambdaP (L : Low) (S : LS) : Res Tree := bnd (takeP S) fun _ S1 => bnd (bodyP L S1) fun pb S2 => .inr (nd 28 S.tl [pb.1, pb.2], S2)
theorem lambdaP_on {L : Low} (hL : LowGood L) {S S' : LS} {a : Tree} (ok : Ok S) (hk : S.kd ≠ 0) (h : lambdaP L S = .inr (a, S')) : On S S' := by
  obtain ⟨_, S1, h1, h⟩ := bnd_some h
  obtain ⟨pb, S2, h2, h⟩ := bnd_some h
  cases h
  have o1 := take_on ok hk h1
  exact o1.trans (bodyP_good hL _ _ _ o1.ok h2)
def fieldP (n : Nat) (S : LS) : Res Tree := bnd (takeP S) fun _ S1 => bnd (limitP n S1) fun _ S2 => bnd (nameP S2) fun s S3 => bnd (wantP tSemi S3) fun _ S4 => .inr (ndT 3 s S.tl [], S4)
theorem fieldP_on {n : Nat} {S S' : LS} {a : Tree} (ok : Ok S) (hk : S.kd ≠ 0) (h : fieldP n S = .inr (a, S')) : On S S' ∧ n ≠ 8 := by
  obtain ⟨_, S1, h1, h'⟩ := bnd_some h
  clear h
  obtain ⟨_, S2, h2, h⟩ := bnd_some h'
  clear h'
  have hn : n ≠ 8 := fun e => by rw [limitP, if_pos e] at h2; cases h2
  obtain rfl := limit_on h2
  obtain ⟨s, S3, h3, h'⟩ := bnd_some h
  obtain ⟨_, S4, h4, h''⟩ := bnd_some h'
  cases h''
  have o1 := take_on ok hk h1
  have o3 := name_on o1.ok h3
  exact ⟨(o1.trans o3).trans (want_on o3.ok h4), hn⟩
def fieldsP : Nat → List Tree → LS → Res (List Tree)
  | 0, _, S => .inl (0, S.tp)
  | f + 1, acc, S => if S.is wField = true then bnd (fieldP acc.length S) fun t S1 => fieldsP f (acc ++ [t]) S1 else .inr (acc, S)
theorem fieldsP_on : ∀ (f : Nat) (acc l : List Tree) (S S' : LS), Ok S → fieldsP f acc S = .inr (l, S') → On0 S S'
  | 0, acc, l, S, S', ok, h => by cases h
  | f + 1, acc, l, S, S', ok, h => by
    rw [fieldsP] at h
    split at h
    · rename_i hi
      obtain ⟨t, S1, h1, h⟩ := bnd_some h
      have o1 := (fieldP_on ok (is_kd hi) h1).1
      exact o1.weak.trans (fieldsP_on f _ l S1 S' o1.ok h)
    · cases h
      exact On0.refl ok
/-- The name of a class that this one is under. -/
def underP (S : LS) : Res ByteArray := bnd (acceptP tLess S) fun b S1 => if b = true then nameP S1 else .inr (noText, S1)
theorem underP_on {S S' : LS} {a : ByteArray} (ok : Ok S) (h : underP S = .inr (a, S')) : On0 S S' := by
  obtain ⟨b, S1, h1, h⟩ := bnd_some h
  have o1 := (accept_on ok h1).1
  split at h
  · exact o1.trans (name_on o1.ok h).weak
  · cases h; exact o1
def classP (L : Low) (S : LS) : Res Tree := bnd (takeP S) fun _ S1 => bnd (nameP S1) fun s S2 => bnd (underP S2) fun u S3 => bnd (wantP tLeft S3) fun _ S4 => bnd (fieldsP 10 [] S4) fun fs S5 =>
  bnd (untilP tRight (methodP L) 3002 fs S5) fun ks S6 => .inr (⟨2, s, u, 0, S.tl, ks⟩, S6)
theorem classP_on {L : Low} (hL : LowGood L) {S S' : LS} {a : Tree} (ok : Ok S) (hk : S.kd ≠ 0) (h : classP L S = .inr (a, S')) : On S S' := by
  obtain ⟨_, S1, h1, h⟩ := bnd_some h
  obtain ⟨s, S2, h2, h⟩ := bnd_some h
  obtain ⟨u, S3, h3, h⟩ := bnd_some h
  obtain ⟨_, S4, h4, h⟩ := bnd_some h
  obtain ⟨fs, S5, h5, h⟩ := bnd_some h
  obtain ⟨ks, S6, h6, h⟩ := bnd_some h
  cases h
  have o1 := take_on ok hk h1
  have o2 := name_on o1.ok h2
  have o3 := underP_on o2.ok h3
  have o4 := want_on o3.ok h4
  have o5 := fieldsP_on _ _ _ _ _ o4.ok h5
  exact ((((o1.trans o2).trans0 o3).trans o4).trans0 o5).trans (untilP_on (methodP_good hL) _ _ _ _ _ o5.ok h6)
def outermostP (L : Low) (S : LS) : Res Tree := if S.is wClass = true then classP L S else if S.is wFn = true then fnP L S else L.S S
theorem outermostP_good {L : Low} (hL : LowGood L) : Good (outermostP L) := fun S a S' ok h => by
  unfold outermostP at h
  split at h
  · rename_i hi; exact classP_on hL ok (is_kd hi) h
  · split at h
    · rename_i hi; exact fnP_on hL ok (is_kd hi) h
    · exact hL.s _ _ _ ok h
def progLoop (L : Low) : Nat → List Tree → LS → Res (List Tree)
  | 0, _, S => .inl (0, S.tp)
  | f + 1, acc, S => if S.kd = 0 then .inr (acc, S) else bnd (outermostP L S) fun t S1 => progLoop L f (acc ++ [t]) S1
def programP (L : Low) (S : LS) : Res Tree := bnd (progLoop L 3002 [] S) fun ks S1 => .inr (nd 1 S.tl ks, S1)

def variableP (L : Low) (S : LS) : Res Tree := bnd (takeP S) fun _ S1 => bnd (nameP S1) fun s S2 => bnd (wantP tEqual S2) fun _ S3 => bnd (closeP L.V S3) fun t S4 => .inr (ndT 8 s S.tl [t], S4)
theorem variableP_on {L : Low} (hL : LowGood L) {S S' : LS} {a : Tree} (ok : Ok S) (hk : S.kd ≠ 0) (h : variableP L S = .inr (a, S')) : On S S' := by
  obtain ⟨_, S1, h1, h⟩ := bnd_some h
  obtain ⟨s, S2, h2, h⟩ := bnd_some h
  obtain ⟨_, S3, h3, h⟩ := bnd_some h
  obtain ⟨t, S4, h4, h⟩ := bnd_some h
  cases h
  have o1 := take_on ok hk h1
  have o2 := name_on o1.ok h2
  have o3 := want_on o2.ok h3
  exact ((o1.trans o2).trans o3).trans (closeP_good hL.v _ _ _ o3.ok h4)
def guardedP (L : Low) (k : Nat) (S : LS) : Res Tree := bnd (takeP S) fun _ S1 => bnd (inParP L S1) fun c S2 => bnd (blockP L S2) fun b S3 => .inr (nd k S.tl [c, b], S3)
theorem guardedP_on {L : Low} (hL : LowGood L) {k : Nat} {S S' : LS} {a : Tree} (ok : Ok S) (hk : S.kd ≠ 0) (h : guardedP L k S = .inr (a, S')) : On S S' := by
  obtain ⟨_, S1, h1, h⟩ := bnd_some h
  obtain ⟨c, S2, h2, h⟩ := bnd_some h
  obtain ⟨b, S3, h3, h⟩ := bnd_some h
  cases h
  have o1 := take_on ok hk h1
  have o2 := inParP_good hL _ _ _ o1.ok h2
  exact (o1.trans o2).trans (blockP_good hL _ _ _ o2.ok h3)
def choiceP (L : Low) (S : LS) : Res Tree := bnd (guardedP L 10 S) fun t S1 => bnd (acceptP wElse S1) fun b S2 => if b = true then bnd (blockP L S2) fun u S3 => .inr ({ t with kids := t.kids ++ [u] }, S3) else .inr (t, S2)
theorem choiceP_on {L : Low} (hL : LowGood L) {S S' : LS} {a : Tree} (ok : Ok S) (hk : S.kd ≠ 0) (h : choiceP L S = .inr (a, S')) : On S S' := by
  obtain ⟨t, S1, h1, h⟩ := bnd_some h
  obtain ⟨b, S2, h2, h⟩ := bnd_some h
  have o1 := guardedP_on hL ok hk h1
  have o2 := (accept_on o1.ok h2).1
  split at h
  · obtain ⟨u, S3, h3, h⟩ := bnd_some h
    cases h
    exact (o1.trans0 o2).trans (blockP_good hL _ _ _ o2.ok h3)
  · cases h; exact o1.trans0 o2
def returnedP (L : Low) (S : LS) : Res Tree := bnd (takeP S) fun _ S1 => bnd (acceptP tSemi S1) fun b S2 => if b = true then .inr (nd 12 S.tl [], S2) else bnd (closeP L.V S2) fun t S3 => .inr (nd 12 S.tl [t], S3)
theorem returnedP_on {L : Low} (hL : LowGood L) {S S' : LS} {a : Tree} (ok : Ok S) (hk : S.kd ≠ 0) (h : returnedP L S = .inr (a, S')) : On S S' := by
  obtain ⟨_, S1, h1, h⟩ := bnd_some h
  obtain ⟨b, S2, h2, h⟩ := bnd_some h
  have o1 := take_on ok hk h1
  have o2 := (accept_on o1.ok h2).1
  split at h
  · cases h; exact o1.trans0 o2
  · obtain ⟨t, S3, h3, h⟩ := bnd_some h
    cases h
    exact (o1.trans0 o2).trans (closeP_good hL.v _ _ _ o2.ok h3)
def endP (k : Nat) (P : LS → Res Tree) (S : LS) : Res Tree := bnd (takeP S) fun _ S1 => bnd (closeP P S1) fun t S2 => .inr (nd k S.tl [t], S2)
theorem endP_on {k : Nat} {P : LS → Res Tree} (hP : Good P) {S S' : LS} {a : Tree} (ok : Ok S) (hk : S.kd ≠ 0) (h : endP k P S = .inr (a, S')) : On S S' := by
  obtain ⟨_, S1, h1, h⟩ := bnd_some h
  obtain ⟨t, S2, h2, h⟩ := bnd_some h
  cases h
  have o1 := take_on ok hk h1
  exact o1.trans (closeP_good hP _ _ _ o1.ok h2)
def catchP (L : Low) (S : LS) : Res Tree := bnd (wantP wCatch S) fun _ S1 => bnd (wantP tOpen S1) fun _ S2 => bnd (nameP S2) fun s S3 => bnd (wantP tShut S3) fun _ S4 => bnd (blockP L S4) fun b S5 => .inr (ndT 15 s S.tl [b], S5)
theorem catchP_good {L : Low} (hL : LowGood L) : Good (catchP L) := fun S a S' ok h => by
  obtain ⟨_, S1, h1, h⟩ := bnd_some h
  obtain ⟨_, S2, h2, h⟩ := bnd_some h
  obtain ⟨s, S3, h3, h⟩ := bnd_some h
  obtain ⟨_, S4, h4, h⟩ := bnd_some h
  obtain ⟨b, S5, h5, h⟩ := bnd_some h
  cases h
  have o1 := want_on ok h1
  have o2 := want_on o1.ok h2
  have o3 := name_on o2.ok h3
  have o4 := want_on o3.ok h4
  exact (((o1.trans o2).trans o3).trans o4).trans (blockP_good hL _ _ _ o4.ok h5)
def tryP (L : Low) (S : LS) : Res Tree := bnd (takeP S) fun _ S1 => bnd (blockP L S1) fun b S2 => bnd (catchP L S2) fun c S3 => .inr (nd 14 S.tl [b, c], S3)
theorem tryP_on {L : Low} (hL : LowGood L) {S S' : LS} {a : Tree} (ok : Ok S) (hk : S.kd ≠ 0) (h : tryP L S = .inr (a, S')) : On S S' := by
  obtain ⟨_, S1, h1, h⟩ := bnd_some h
  obtain ⟨b, S2, h2, h⟩ := bnd_some h
  obtain ⟨c, S3, h3, h⟩ := bnd_some h
  cases h
  have o1 := take_on ok hk h1
  have o2 := blockP_good hL _ _ _ o1.ok h2
  exact (o1.trans o2).trans (catchP_good hL _ _ _ o2.ok h3)
def settable (k : Nat) : Bool := k == 24 || k == 42 || k == 44
def bareP (L : Low) (S : LS) : Res Tree := bnd (L.V S) fun t S1 =>
  if S1.is tEqual = true then (if settable t.kind = true then bnd (takeP S1) fun _ S2 => bnd (L.V S2) fun u S3 => bnd (wantP tSemi S3) fun _ S4 => .inr (nd 9 S.tl [t, u], S4) else .inl (1, S.tp))
  else bnd (wantP tSemi S1) fun _ S2 => .inr (nd 17 S.tl [t], S2)
theorem bareP_good {L : Low} (hL : LowGood L) : Good (bareP L) := fun S a S' ok h => by
  obtain ⟨t, S1, h1, h⟩ := bnd_some h
  have o1 := hL.v _ _ _ ok h1
  split at h
  · rename_i hi
    split at h
    · obtain ⟨_, S2, h2, h⟩ := bnd_some h
      obtain ⟨u, S3, h3, h⟩ := bnd_some h
      obtain ⟨_, S4, h4, h⟩ := bnd_some h
      cases h
      have o2 := take_on o1.ok (is_kd hi) h2
      have o3 := hL.v _ _ _ o2.ok h3
      exact ((o1.trans o2).trans o3).trans (want_on o3.ok h4)
    · cases h
  · obtain ⟨_, S2, h2, h⟩ := bnd_some h
    cases h
    exact o1.trans (want_on o1.ok h2)
def anyP (L : Low) (S : LS) : Res Tree :=
  if S.is wVar = true then variableP L S else if S.is wIf = true then choiceP L S else if S.is wWhile = true then guardedP L 11 S else if S.is wReturn = true then returnedP L S
  else if S.is wThrow = true then endP 13 L.V S else if S.is wPrint = true then endP 16 (inParP L) S else if S.is wTry = true then tryP L S else bareP L S
theorem anyP_good {L : Low} (hL : LowGood L) : Good (anyP L) := fun S a S' ok h => by
  unfold anyP at h
  split at h
  · rename_i hi; exact variableP_on hL ok (is_kd hi) h
  · split at h
    · rename_i hi; exact choiceP_on hL ok (is_kd hi) h
    · split at h
      · rename_i hi; exact guardedP_on hL ok (is_kd hi) h
      · split at h
        · rename_i hi; exact returnedP_on hL ok (is_kd hi) h
        · split at h
          · rename_i hi; exact endP_on hL.v ok (is_kd hi) h
          · split at h
            · rename_i hi; exact endP_on (inParP_good hL) ok (is_kd hi) h
            · split at h
              · rename_i hi; exact tryP_on hL ok (is_kd hi) h
              · exact bareP_good hL _ _ _ ok h
end Go.Proofs.YtjcoobkpmpjpbaaGreatDoor

namespace Go.Proofs.YtjcoobkpmpjpbaaGreatDoor
open Go.RowKit

/-- A node that begins where its first kid does. -/
def around (k : Nat) (t : Tree) (ts : List Tree) : Tree := nd k t.line (t :: ts)
/-- The kind of node that the sign makes that is come to (0: none of that strength). -/
def joinerP (lev : Nat) (S : LS) : Nat := match signRows.find? (fun s => s.2.2 == lev && S.is s.1) with
  | some s => s.2.1
  | none => 0
theorem joiner_kd {lev : Nat} {S : LS} (h : joinerP lev S ≠ 0) : S.kd ≠ 0 := by
  unfold joinerP at h
  split at h
  · rename_i s hs
    have := List.find?_some hs
    simp only [Bool.and_eq_true] at this
    exact is_kd this.2
  · exact absurd rfl h
def joinLoop (lev : Nat) (P : LS → Res Tree) : Nat → Tree → LS → Res Tree
  | 0, _, S => .inl (0, S.tp)
  | f + 1, t, S => if joinerP lev S = 0 then .inr (t, S) else bnd (takeP S) fun _ S1 => bnd (P S1) fun u S2 => joinLoop lev P f (around (joinerP lev S) t [u]) S2
theorem joinLoop_on {lev : Nat} {P : LS → Res Tree} (hP : Good P) : ∀ (f : Nat) (t a : Tree) (S S' : LS), Ok S → joinLoop lev P f t S = .inr (a, S') → On0 S S'
  | 0, t, a, S, S', ok, h => by cases h
  | f + 1, t, a, S, S', ok, h => by
    rw [joinLoop] at h
    split at h
    · cases h; exact On0.refl ok
    · rename_i hi
      obtain ⟨_, S1, h1, h⟩ := bnd_some h
      obtain ⟨u, S2, h2, h⟩ := bnd_some h
      have o1 := take_on ok (joiner_kd hi) h1
      have o2 := hP _ _ _ o1.ok h2
      exact (o1.trans o2).weak.trans (joinLoop_on hP f _ a S2 S' o2.ok h)
def joinP (lev : Nat) (P : LS → Res Tree) (S : LS) : Res Tree := bnd (P S) fun t S1 => joinLoop lev P 3002 t S1
theorem joinP_good {lev : Nat} {P : LS → Res Tree} (hP : Good P) : Good (joinP lev P) := fun S a S' ok h => by
  obtain ⟨t, S1, h1, h⟩ := bnd_some h
  have o1 := hP _ _ _ ok h1
  exact o1.trans0 (joinLoop_on hP _ _ _ _ _ o1.ok h)
/-- The readers of six strengths, one upon the other: the n strongest ones. -/
def jo (P : LS → Res Tree) : Nat → LS → Res Tree
  | 0 => P
  | n + 1 => joinP (6 - n) (jo P n)
theorem jo_good {P : LS → Res Tree} (hP : Good P) : ∀ n, Good (jo P n)
  | 0 => hP
  | n + 1 => joinP_good (jo_good hP n)

def memberP (L : Low) (t : Tree) (S : LS) : Res Tree := bnd (nameP S) fun s S1 => bnd (acceptP tOpen S1) fun b S2 => if b = true then bnd (argsP L S2) fun us S3 => .inr (ndT 43 s t.line (t :: us), S3) else .inr (ndT 42 s t.line [t], S2)
theorem memberP_on {L : Low} (hL : LowGood L) {t a : Tree} {S S' : LS} (ok : Ok S) (h : memberP L t S = .inr (a, S')) : On S S' := by
  obtain ⟨s, S1, h1, h⟩ := bnd_some h
  obtain ⟨b, S2, h2, h⟩ := bnd_some h
  have o1 := name_on ok h1
  have o2 := (accept_on o1.ok h2).1
  split at h
  · obtain ⟨us, S3, h3, h⟩ := bnd_some h
    cases h
    exact (o1.trans0 o2).trans (listedP_good hL.v _ _ _ o2.ok h3)
  · cases h; exact o1.trans0 o2
def sufLoop (L : Low) : Nat → Tree → LS → Res Tree
  | 0, _, S => .inl (0, S.tp)
  | f + 1, t, S => bnd (acceptP tDot S) fun b S1 => if b = true then bnd (memberP L t S1) fun u S2 => sufLoop L f u S2
    else bnd (acceptP tSquare S1) fun b S2 => if b = true then bnd (L.V S2) fun u S3 => bnd (wantP tSquared S3) fun _ S4 => sufLoop L f (around 44 t [u]) S4
    else bnd (acceptP tOpen S2) fun b S3 => if b = true then bnd (argsP L S3) fun us S4 => sufLoop L f (around 45 t us) S4 else .inr (t, S3)
theorem sufLoop_on {L : Low} (hL : LowGood L) : ∀ (f : Nat) (t a : Tree) (S S' : LS), Ok S → sufLoop L f t S = .inr (a, S') → On0 S S'
  | 0, t, a, S, S', ok, h => by cases h
  | f + 1, t, a, S, S', ok, h => by
    rw [sufLoop] at h
    obtain ⟨b1, S1, h1, h⟩ := bnd_some h
    have o1 := (accept_on ok h1).1
    split at h
    · obtain ⟨u, S2, h2, h⟩ := bnd_some h
      have o2 := memberP_on hL o1.ok h2
      exact (o1.trans o2.weak).trans (sufLoop_on hL f _ a S2 S' o2.ok h)
    · obtain ⟨b2, S2, h2, h⟩ := bnd_some h
      have o2 := (accept_on o1.ok h2).1
      split at h
      · obtain ⟨u, S3, h3, h⟩ := bnd_some h
        obtain ⟨_, S4, h4, h⟩ := bnd_some h
        have o3 := hL.v _ _ _ o2.ok h3
        have o4 := want_on o3.ok h4
        exact (((o1.trans o2).trans o3.weak).trans o4.weak).trans (sufLoop_on hL f _ a S4 S' o4.ok h)
      · obtain ⟨b3, S3, h3, h⟩ := bnd_some h
        have o3 := (accept_on o2.ok h3).1
        split at h
        · obtain ⟨us, S4, h4, h⟩ := bnd_some h
          have o4 := listedP_good hL.v _ _ _ o3.ok h4
          exact (((o1.trans o2).trans o3).trans o4.weak).trans (sufLoop_on hL f _ a S4 S' o4.ok h)
        · cases h; exact (o1.trans o2).trans o3
def constP (S : LS) : Nat := if S.is wTrue = true then 20 else if S.is wFalse = true then 21 else if S.is wNil = true then 22 else if S.is wThis = true then 23 else 0
theorem const_kd {S : LS} (h : constP S ≠ 0) : S.kd ≠ 0 := by
  unfold constP at h
  split at h
  · rename_i hi; exact is_kd hi
  · split at h
    · rename_i hi; exact is_kd hi
    · split at h
      · rename_i hi; exact is_kd hi
      · split at h
        · rename_i hi; exact is_kd hi
        · exact absurd rfl h
def namedP (L : Low) (k ln : Nat) (S : LS) : Res Tree := bnd (nameP S) fun s S1 => bnd (wantP tOpen S1) fun _ S2 => bnd (argsP L S2) fun us S3 => .inr (ndT k s ln us, S3)
theorem namedP_on {L : Low} (hL : LowGood L) {k ln : Nat} {S S' : LS} {a : Tree} (ok : Ok S) (h : namedP L k ln S = .inr (a, S')) : On S S' := by
  obtain ⟨s, S1, h1, h⟩ := bnd_some h
  obtain ⟨_, S2, h2, h⟩ := bnd_some h
  obtain ⟨us, S3, h3, h⟩ := bnd_some h
  cases h
  have o1 := name_on ok h1
  have o2 := want_on o1.ok h2
  exact (o1.trans o2).trans (listedP_good hL.v _ _ _ o2.ok h3)
def markedP (L : Low) (S : LS) : Res Tree :=
  if S.is tOpen = true then inParP L S
  else if S.is tSquare = true then bnd (takeP S) fun _ S1 => bnd (listedP tSquared L.V S1) fun us S2 => .inr (nd 27 S.tl us, S2)
  else if S.is wFn = true then lambdaP L S
  else if S.is wNew = true then bnd (takeP S) fun _ S1 => namedP L 25 S.tl S1
  else if S.is wSuper = true then bnd (takeP S) fun _ S1 => bnd (wantP tDot S1) fun _ S2 => namedP L 26 S.tl S2
  else if S.is wInput = true then bnd (takeP S) fun _ S1 => bnd (wantP tOpen S1) fun _ S2 => bnd (wantP tShut S2) fun _ S3 => .inr (nd 29 S.tl [], S3)
  else if S.is wLen = true then bnd (takeP S) fun _ S1 => bnd (inParP L S1) fun t S2 => .inr (nd 30 S.tl [t], S2)
  else .inl (3, S.tp)
theorem markedP_good {L : Low} (hL : LowGood L) : Good (markedP L) := fun S a S' ok h => by
  unfold markedP at h
  split at h
  · exact inParP_good hL _ _ _ ok h
  · split at h
    · rename_i hi
      obtain ⟨_, S1, h1, h⟩ := bnd_some h
      obtain ⟨us, S2, h2, h⟩ := bnd_some h
      cases h
      have o1 := take_on ok (is_kd hi) h1
      exact o1.trans (listedP_good hL.v _ _ _ o1.ok h2)
    · split at h
      · rename_i hi; exact lambdaP_on hL ok (is_kd hi) h
      · split at h
        · rename_i hi
          obtain ⟨_, S1, h1, h⟩ := bnd_some h
          have o1 := take_on ok (is_kd hi) h1
          exact o1.trans (namedP_on hL o1.ok h)
        · split at h
          · rename_i hi
            obtain ⟨_, S1, h1, h⟩ := bnd_some h
            obtain ⟨_, S2, h2, h⟩ := bnd_some h
            have o1 := take_on ok (is_kd hi) h1
            have o2 := want_on o1.ok h2
            exact (o1.trans o2).trans (namedP_on hL o2.ok h)
          · split at h
            · rename_i hi
              obtain ⟨_, S1, h1, h⟩ := bnd_some h
              obtain ⟨_, S2, h2, h⟩ := bnd_some h
              obtain ⟨_, S3, h3, h⟩ := bnd_some h
              cases h
              have o1 := take_on ok (is_kd hi) h1
              have o2 := want_on o1.ok h2
              exact (o1.trans o2).trans (want_on o2.ok h3)
            · split at h
              · rename_i hi
                obtain ⟨_, S1, h1, h⟩ := bnd_some h
                obtain ⟨t, S2, h2, h⟩ := bnd_some h
                cases h
                have o1 := take_on ok (is_kd hi) h1
                exact o1.trans (inParP_good hL _ _ _ o1.ok h2)
              · cases h
def simpleP (L : Low) (S : LS) : Res Tree := if S.kd = 2 then leafP 24 S else if S.kd = 3 then leafP 18 S else if S.kd = 4 then leafP 19 S else if constP S = 0 then markedP L S else leafP (constP S) S
theorem leafP_on {k : Nat} {S S' : LS} {a : Tree} (ok : Ok S) (hk : S.kd ≠ 0) (h : leafP k S = .inr (a, S')) : On S S' := by
  obtain ⟨_, S1, h1, h⟩ := bnd_some h
  cases h
  exact take_on ok hk h1
theorem simpleP_good {L : Low} (hL : LowGood L) : Good (simpleP L) := fun S a S' ok h => by
  unfold simpleP at h
  split at h
  · exact leafP_on ok (by omega) h
  · split at h
    · exact leafP_on ok (by omega) h
    · split at h
      · exact leafP_on ok (by omega) h
      · split at h
        · exact markedP_good hL _ _ _ ok h
        · rename_i hc; exact leafP_on ok (const_kd hc) h
def suffixedP (L : Low) (S : LS) : Res Tree := bnd (simpleP L S) fun t S1 => sufLoop L 3002 t S1
theorem suffixedP_good {L : Low} (hL : LowGood L) : Good (suffixedP L) := fun S a S' ok h => by
  obtain ⟨t, S1, h1, h⟩ := bnd_some h
  have o1 := simpleP_good hL _ _ _ ok h1
  exact o1.trans0 (sufLoop_on hL _ _ _ _ _ o1.ok h)
def signedP (L : Low) (k : Nat) (S : LS) : Res Tree := bnd (takeP S) fun _ S1 => bnd (L.N S1) fun t S2 => .inr (nd k S.tl [t], S2)
theorem signedP_on {L : Low} (hL : LowGood L) {k : Nat} {S S' : LS} {a : Tree} (ok : Ok S) (hk : S.kd ≠ 0) (h : signedP L k S = .inr (a, S')) : On S S' := by
  obtain ⟨_, S1, h1, h⟩ := bnd_some h
  obtain ⟨t, S2, h2, h⟩ := bnd_some h
  cases h
  have o1 := take_on ok hk h1
  exact o1.trans (hL.n _ _ _ o1.ok h2)
def prefixedP (L : Low) (S : LS) : Res Tree := if S.is tNot = true then signedP L 41 S else if S.is tMinus = true then signedP L 40 S else suffixedP L S
theorem prefixedP_good {L : Low} (hL : LowGood L) : Good (prefixedP L) := fun S a S' ok h => by
  unfold prefixedP at h
  split at h
  · rename_i hi; exact signedP_on hL ok (is_kd hi) h
  · split at h
    · rename_i hi; exact signedP_on hL ok (is_kd hi) h
    · exact suffixedP_good hL _ _ _ ok h

/-- One deeper. -/
def deepP (P : LS → Res Tree) (S : LS) : Res Tree := if S.dp = 25 then .inl (4, S.tp) else bnd (P { S with dp := S.dp + 1 }) fun t S1 => .inr (t, { S1 with dp := S1.dp - 1 })
theorem deepP_good {P : LS → Res Tree} (hP : Good P) : Good (deepP P) := fun S a S' ok h => by
  unfold deepP at h
  split at h
  · cases h
  · obtain ⟨t, S1, h1, h⟩ := bnd_some h
    cases h
    have o1 := hP _ _ _ (show Ok { S with dp := S.dp + 1 } from ⟨⟨ok.fit.size, ok.fit.pl, ok.fit.ln⟩, ok.tp, ok.tl, ok.now⟩) h1
    refine ⟨⟨⟨o1.ok.fit.size, o1.ok.fit.pl, o1.ok.fit.ln⟩, o1.ok.tp, o1.ok.tl, o1.ok.now⟩, ⟨o1.same.src, ?_, o1.same.jn⟩, o1.tp⟩
    show S1.dp - 1 = S.dp
    have := o1.same.dp
    have h2 : S1.dp = S.dp + 1 := this
    omega

/-- What reads at a depth of which so many are left. -/
def lower : Nat → Low
  | 0 => ⟨fun S => .inl (4, S.tp), fun S => .inl (4, S.tp), fun S => .inl (4, S.tp)⟩
  | d + 1 => ⟨deepP (jo (prefixedP (lower d)) 6), deepP (anyP (lower d)), deepP (prefixedP (lower d))⟩
theorem lower_good : ∀ d, LowGood (lower d)
  | 0 => ⟨fun _ _ _ _ h => (by cases h), fun _ _ _ _ h => (by cases h), fun _ _ _ _ h => (by cases h)⟩
  | d + 1 => ⟨deepP_good (jo_good (prefixedP_good (lower_good d)) 6), deepP_good (anyP_good (lower_good d)), deepP_good (prefixedP_good (lower_good d))⟩
end Go.Proofs.YtjcoobkpmpjpbaaGreatDoor

namespace Go.Proofs.YtjcoobkpmpjpbaaGreatDoor
open Go.RowKit

/-- A list of trees in memory, made since the heap was so great. -/
structure Lst (lo : Nat) (w : World) (ks : Value) (vs : List Value) (ts : List Tree) : Prop where
  row : Row (fun j => lo ≤ j) w ks vs
  len : vs.length = ts.length
  kids : ∀ (i : Nat) (h : i < ts.length), NodeAt (fun j => lo ≤ j ∧ some j ≠ ks.ownBlock) w (vs.getD i undef) ts[i]

def vList (lo : Nat) (ts : List Tree) (v : Value) (w' : World) : Prop := ∃ vs, Lst lo w' v vs ts ∧ (ts = [] → v = .slice none 0 0) ∧ ts.length ≤ 8

theorem Lst.nil (lo : Nat) (w : World) : Lst lo w (.slice none 0 0) [] [] := ⟨Or.inl ⟨rfl, rfl⟩, rfl, fun i h => absurd h (Nat.not_lt_zero i)⟩
theorem Lst.ext {lo r : Nat} {w w' : World} {ks : Value} {vs : List Value} {ts : List Tree} (h : Lst lo w ks vs ts) (hx : Ext r w w') (hr : r < lo) : Lst lo w' ks vs ts :=
  ⟨h.row.keep (fun _ h => h) (fun j hj hl => hx.block j hl (by omega)), h.len, fun i hi => (h.kids i hi).ext hx fun j hj => by omega⟩
theorem Lst.form {lo : Nat} {w : World} {ks : Value} {vs : List Value} {ts : List Tree} (h : Lst lo w ks vs ts) : ∃ a cap, ks = .slice a ts.length cap := by
  rcases h.row with ⟨rfl, hv⟩ | ⟨g, cap, cur, rfl, _⟩
  · have := h.len
    rw [hv] at this
    exact ⟨none, 0, by rw [← this]; rfl⟩
  · exact ⟨some ⟨g, 0, none⟩, cap, by rw [h.len]⟩

/-- One more. -/
theorem Lst.more {lo : Nat} {w0 w w2 w3 : World} {r : Nat} {S : LS} {ts : List Tree} {ks : Value} {vs : List Value} (hlo0 : lo = w0.heap.size) (hl : Lst lo w ks vs ts) (hl2 : Lst lo w2 ks vs ts)
    (hlw : lo ≤ w.heap.size) (hr : r + 18 < lo) (cx : Cx w2 r S) (hx0 : Ext r w0 w2) {x : Value} {t : Tree} (hv : vNode w.heap.size t x w2) (o : Obj) {g cap : Nat}
    (hown : w3.ownsRow 0 22 1 (.slice (some ⟨g, 0, none⟩) (vs.length + 1) cap) (vs.length + 1) (vs ++ [x]))
    (hg : (w2.alloc o).grownBy w3 ks.ownBlock) (hat : ks.ownBlock = some g ∨ g = w2.heap.size + 1) :
    Hid (Lst lo w3 (.slice (some ⟨g, 0, none⟩) (vs.length + 1) cap) (vs ++ [x]) (ts ++ [t])) ∧ Hid (Ext r w0 w3) ∧ Hid (Cx w3 r S) := by
  have hkw : ∀ j, ks.ownBlock = some j → j < w.heap.size ∧ lo ≤ j := by
    intro j hj
    rcases hl.row with ⟨rfl, _⟩ | ⟨g', cap', cur, rfl, hg', h3, _⟩
    · simp [Value.ownBlock] at hj
    · simp only [Value.ownBlock, Option.some.injEq] at hj
      subst hj
      exact ⟨(Array.getElem?_eq_some_iff.1 h3).1, hg'⟩
  have hsz : lo ≤ w2.heap.size := by rw [hlo0]; exact hx0.size
  have hrk : some r ≠ ks.ownBlock := fun e => by have := (hkw r e.symm).2; omega
  have hrx : r < w2.heap.size := cx.rd.lt
  have hx3 : Ext r w0 w3 := ext_grown (hx0.alloc o) hg fun j hj => by have := (hkw j hj).2; omega
  have hcx3 : Cx w3 r S := by
    have ca := cx.alloc o
    have far := cx.tabs.far
    have hjc := ca.jc.keep (w' := w3) fun j _ h2 h3 => hg.block j h3 fun e => by have := (hkw j e.symm).2; omega
    have hjn := ca.jn
    have ht := ca.tabs.keep (w' := w3) fun j h1 h2 => hg.block j h2 fun e => by have := (hkw j e.symm).2; omega
    obtain ⟨⟨t, hr1⟩, ok, _, _, _⟩ := ca
    exact ⟨⟨t, (hg.block r (by simp; omega) hrk).trans hr1⟩, ok, ht, hjc, hjn⟩
  have hglo : lo ≤ g := by
    rcases hat with e | e
    · exact (hkw g e).2
    · omega
  refine ⟨?_, hx3, hcx3⟩
  have keepK : ∀ (v : Value) (u : Tree), NodeAt (fun j => lo ≤ j ∧ some j ≠ ks.ownBlock) w2 v u → NodeAt (fun j => lo ≤ j ∧ some j ≠ some g) w3 v u := fun v u hu =>
    (hu.lt u v).keep (fun j hj => ⟨hj.1.1, fun e => by
      have e' : j = g := by simpa using e
      rcases hat with q | q
      · exact hj.1.2 (by rw [q, e'])
      · have := hj.2; omega⟩) (fun j hj hl => (hg.block j (by simp; omega) hj.1.2).trans (hold _ _ hl)) u v
  have hlen := hl2.len
  refine ⟨?_, by simp [hlen], ?_⟩
  · have := Row.of_owns (A := fun j => lo ≤ j) (vs := vs ++ [x]) (by simpa using hown) hglo
    simpa using this
  · intro i hi
    by_cases hi' : i < ts.length
    · have := keepK _ _ (hl2.kids i hi')
      have e1 : (vs ++ [x]).getD i undef = vs.getD i undef := by simp [List.getD, List.getElem?_append_left (show i < vs.length by omega)]
      rw [e1, List.getElem_append_left hi']
      exact this
    · have hi2 : i = ts.length := by simp at hi; omega
      subst hi2
      have hxk : NodeAt (fun j => lo ≤ j ∧ some j ≠ ks.ownBlock) w2 x t := by
        refine NodeAt.keep (fun j hj => ⟨?_, fun e => ?_⟩) (fun _ _ _ => rfl) t x hv
        · omega
        · have := (hkw j e.symm).1; omega
      have := keepK _ _ hxk
      have e1 : (vs ++ [x]).getD ts.length undef = x := by simp [List.getD, ← hlen]
      have e2 : (ts ++ [t])[ts.length]'hi = t := by simp
      rw [e1, e2]
      exact this

/-- A node without kids is given a list. -/
theorem Und.setKids {lo lo2 : Nat} {w : World} {b k : Nat} {tx un : ByteArray} {n : Int} {ln : Nat} {ks : Value} {vs : List Value} {ts : List Tree} (h : Und (fun j => lo ≤ j) w b k tx un n ln [] (.slice none 0 0) []) (hl : Lst lo2 w ks vs ts) (hb : b < lo2) :
    Und (fun j => lo ≤ j) (w.setCell ⟨b, 5, none⟩ ks) b k tx un n ln ts ks vs := by
  obtain ⟨t, hc⟩ := h.cells
  have hlo : lo ≤ b := h.at'
  refine ⟨h.at', ⟨t, by rw [hset hc]; rfl⟩, hl.row.keep (fun j hj => ⟨by omega, by omega⟩) (fun j hj _ => hother _ (by omega)), hl.len, fun i hi => (hl.kids i hi).keep (fun j hj => ⟨by omega, by omega, hj.2⟩) (fun j hj _ => hother _ (by omega)) _ _⟩

end Go.Proofs.YtjcoobkpmpjpbaaGreatDoor

namespace Go.Proofs.YtjcoobkpmpjpbaaGreatDoor
open Go.RowKit

/-- A part is read by a function that was handed over, wherever the reader stands. -/
structure Part (r D : Nat) (G : FuncId) (pre : Array Value) (P : LS → Res Tree) : Prop where
  ent : ∀ w : World, Sem.run Tryz.prog (callFunc G pre) w = .ok (.enter G pre) w
  good : Good P
  calls : ∀ w S, Cx w r S → S.dp = D → Calls Tryz.prog G pre w fun e w' => Ret (P S) r (vNode w.heap.size) e w' ∧ Ext r w w'

theorem limit_calls {w : World} {r : Nat} {S : LS} (cx : Cx w r S) (n : Nat) :
    Calls Tryz.prog 105 #[.pointer (some ⟨r, 0, none⟩), .int .i64 n] w fun e w' => Ret (limitP n S) r vUnit e w' ∧ Ext r w w' :=
  (limitParts_any cx n).mono fun e w' ⟨h, hw⟩ => ⟨h, by rw [hw]; exact Ext.refl _ _⟩

set_option maxRecDepth 100000 in
set_option maxHeartbeats 4000000 in
theorem listed_any {w : World} {r D : Nat} {S : LS} (cx : Cx w r S) (hD : S.dp = D) (shut : ByteArray) (G : FuncId) (pre : Array Value) (P : LS → Res Tree) (hP : Part r D G pre P) :
    Calls Tryz.prog 99 #[.pointer (some ⟨r, 0, none⟩), .string shut, .func (.func G) pre #[]] w fun e w' =>
      Ret (listedP shut P S) r (vList w.heap.size) e w' ∧ Ext r w w' := by
  obtain ⟨i0, hi, hz0, hz1, hz2⟩ := info_parts infoNode
  have hent := hP.ent
  have HP := hide hP
  have hrj := cx.jc.lt
  have HL := hide (show listedP shut P S = bnd (acceptP shut S) fun b S1 => if b = true then .inr ([], S1) else listLoop shut P 9 [] S1 from rfl)
  clear hP
  go_enter Tryz.func99, Tryz.ntmps99
  go_wp2_with fail
  refine Ret.call (accept_any cx shut) ?_ ?_
  · intro f w1 hf hx
    exact ⟨rfl, Ret.inl ((unhide HL).trans (bnd_inl hf)), hx⟩
  intro b S1 v w1 hf hv cx1 hx1
  obtain rfl : v = .bool b := hv
  have hon := accept_on cx.ok hf
  have HL1 := hide ((unhide HL).trans (bnd_inr hf))
  clear hf HL
  cases b with
  | true =>
    clear hon
    go_wp2_with fail
    go_ret
    exact ⟨Ret.inr (unhide HL1) ⟨[], Lst.nil _ _, fun _ => rfl, by simp⟩ cx1, hx1⟩
  | false =>
    obtain rfl := hon.2.2 rfl
    have HL2 : Hid (listedP shut P S1 = listLoop shut P 9 [] S1) := unhide HL1
    clear HL1 hon cx
    go_wp2_with fail
    go_loopg [7] 9 (fun gg l wr => ∃ (S : LS) (acc : List Tree) (vs : List Value), Cx wr r S ∧ S.dp = D ∧ Hid (Lst w.heap.size wr l vs acc) ∧ Hid (Ext r w wr) ∧ gg + acc.length = 9 ∧ acc.length ≤ 8 ∧ Hid (listLoop shut P gg acc S = listedP shut P S1))
    case atStart => exact ⟨S1, [], [], cx1, hD, Lst.nil _ _, hx1, rfl, by simp, (unhide HL2).symm⟩
    case round =>
      clear cx1 hx1 HL2
      obtain ⟨S, acc, vs, cx, hdp, HLst, HX, hgg, hacc, HE⟩ := hrel
      obtain ⟨la, lcap, rfl⟩ := (unhide HLst).form
      have hvl : vs.length = acc.length := (unhide HLst).len
      obtain ⟨f, hgf⟩ : ∃ f, gk = f + 1 := ⟨gk - 1, by omega⟩
      subst hgf
      have HE1 : Hid ((bnd (limitP acc.length S) fun _ S0 => bnd (P S0) fun t S1 => bnd (acceptP shut S1) fun b S2 =>
        if b = true then .inr (acc ++ [t], S2) else bnd (wantP tComma S2) fun _ S3 => listLoop shut P f (acc ++ [t]) S3) = listedP shut P S1) := unhide HE
      have HV := hide hvl
      clear HE hvl
      go_wp2_with fail
      refine Ret.call (limit_calls cx acc.length) ?_ ?_
      · intro fl w2 hf hx
        exact ⟨rfl, Ret.inl ((unhide HE1).symm.trans (bnd_inl hf)), (unhide HX).trans hx⟩
      intro a S2 v w2 hf hv cx2 hx2
      obtain rfl : v = .tuple #[] := hv
      have hne : acc.length ≠ 8 := by
        intro e
        rw [limitP, if_pos e] at hf
        cases hf
      obtain rfl := limit_on hf
      have HE2 := hide ((bnd_inr hf).symm.trans (unhide HE1))
      have HL2 := hide ((unhide HLst).ext hx2 (by omega))
      have HX2 := hide ((unhide HX).trans hx2)
      clear hf HE1 HLst HX hx2 cx
      go_wp2_with fail
      refine Ret.call ((unhide HP).calls _ _ cx2 hdp) ?_ ?_
      · intro fl w3 hf hx
        exact ⟨rfl, Ret.inl ((unhide HE2).symm.trans (bnd_inl hf)), (unhide HX2).trans hx⟩
      intro t S3 v w3 hf hv cx3 hx3
      have hon3 := (unhide HP).good _ _ _ cx2.ok hf
      obtain ⟨kb, rfl⟩ := vNode_ptr hv
      have HE3 := hide ((bnd_inr hf).symm.trans (unhide HE2))
      have HL3 := hide ((unhide HL2).ext hx3 (by omega))
      have HX3 := hide ((unhide HX2).trans hx3)
      have hd3 : S3.dp = D := hon3.same.dp.trans hdp
      have HN3 := hide hv
      have HSZ := hide (unhide HX2).size
      have HC3 := hide cx3
      clear hf HE2 hv hx3 hon3 cx3 HX2
      go_wp2_with (at_builtin; refine wpList_append_lies _ rfl _ _ _ rfl 0 22 i0 (.pointer none) 1 8 Tryz.underlying37 hi hz0 hz1 hz2 rfl (by decide) _ vs.length vs rfl (((unhide HL3).row.owns).alloc _) ⟨w3.heap.size, 0, none⟩ 1 1 [.pointer (some ⟨kb, 0, none⟩)] rfl rfl (cell_one_new _ _ _) ?c2 (by decide) ?c3 ?c4 (Nat.zero_le _) (w3.heap.size + 1) (by simp) ?_)
      case c2 => intro u hu; simp at hu; subst hu; rfl
      case c3 => have := unhide HV; unfold maxLen; omega
      case c4 => have := unhide HV; omega
      intro g cap w4 hown hgrow hat hlt
      obtain ⟨HL4, HX4, HC4⟩ := Lst.more rfl (unhide HL2) (unhide HL3) (unhide HSZ) (by omega) (unhide HC3) (unhide HX3) (unhide HN3) _ hown hgrow hat
      clear hown hgrow hat hlt HL2 HL3 HX3 HN3 HC3
      go_wp2_with fail
      refine Ret.call (accept_any (unhide HC4) shut) ?_ ?_
      · intro fl w5 hf hx
        exact ⟨rfl, Ret.inl ((unhide HE3).symm.trans (bnd_inl hf)), (unhide HX4).trans hx⟩
      intro bb S5 v w5 hf hv cx5 hx5
      obtain rfl : v = .bool bb := hv
      have hon5 := accept_on (unhide HC4).ok hf
      have HE5 := hide ((bnd_inr hf).symm.trans (unhide HE3))
      have HL5 := hide ((unhide HL4).ext hx5 (by omega))
      have HX5 := hide ((unhide HX4).trans hx5)
      have hd5 : S5.dp = D := hon5.1.same.dp.trans hd3
      clear hf HE3 HL4 HX4 hx5 hon5 HC4
      cases bb with
      | true =>
        go_wp2_with fail
        go_ret
        exact ⟨Ret.inr (unhide HE5).symm ⟨_, unhide HL5, fun h => absurd h (by simp), by simp; omega⟩ cx5, unhide HX5⟩
      | false =>
        go_wp2_with fail
        refine Ret.call (want_any cx5 tComma) ?_ ?_
        · intro fl w6 hf hx
          exact ⟨rfl, Ret.inl ((unhide HE5).symm.trans (bnd_inl hf)), (unhide HX5).trans hx⟩
        intro a6 S6 v w6 hf hv cx6 hx6
        obtain rfl : v = .tuple #[] := hv
        have hon6 := want_on cx5.ok hf
        have HE6 := hide ((bnd_inr hf).symm.trans (unhide HE5))
        have hd6 : S6.dp = D := hon6.same.dp.trans hd5
        clear hf hon6 HE5
        go_wp2_with fail
        go_roundg f
        case measure => omega
        case rel => exact ⟨S6, acc ++ [t], _, cx6, hd6, (unhide HL5).ext hx6 (by omega), (unhide HX5).trans hx6, by simp; omega, by simp; omega, unhide HE6⟩
end Go.Proofs.YtjcoobkpmpjpbaaGreatDoor
