/-
  Programs written, as plain functions.
  What programs that were read are made of.
-/
import Derived.Test.YtndgajlidckcdaaGreatDoorB16
import Derived.Lib.Join
import Derived.Lib.Repeat
import Derived.Lib.ItoaNum
namespace Go.Proofs.YtndgajlidckcdaaGreatDoor
open Go.RowKit

/-- What writes a value as it is, and a statement, so many blocks deep. -/
structure Wr where
  B : Nat → Tree → ByteArray
  S : Nat → Tree → ByteArray
def noTree : Tree := ⟨0, noText, noText, 0, 0, []⟩
def kid (t : Tree) (i : Nat) : Tree := t.kids.getD i noTree
/-- The blanks ahead of a line. -/
def xIn (d : Nat) : ByteArray := ⟨(Lib.repeatL [32, 32] d).toArray⟩
def xInt (n : Int) : ByteArray := ⟨(Lib.decDigits (n % 18446744073709551616).toNat).toArray⟩
def escL (c : UInt8) : List UInt8 := if c = 10 then [92, 110] else if c = 34 ∨ c = 92 then [92, c] else [c]
def xStr (s : ByteArray) : ByteArray := ⟨([34] ++ s.data.toList.flatMap escL ++ [34]).toArray⟩
def xVal (R : Wr) (d l : Nat) (t : Tree) : ByteArray := if strengthP t.kind < l then ((⟨#[40]⟩ ++ R.B d t) ++ ⟨#[41]⟩) else R.B d t
def xVals (R : Wr) (d : Nat) (l : List Tree) : ByteArray := ⟨(Lib.join (l.map fun t => (xVal R d 1 t).data.toList) [44, 32]).toArray⟩
def xArgs (R : Wr) (d : Nat) (l : List Tree) : ByteArray := ((⟨#[40]⟩ ++ xVals R d l) ++ ⟨#[41]⟩)
def xLine (R : Wr) (d : Nat) (t : Tree) : ByteArray := (xIn d ++ R.S d t) ++ ⟨#[10]⟩
def xLines (R : Wr) (d : Nat) (l : List Tree) : ByteArray := ⟨(l.flatMap fun t => (xLine R d t).data.toList).toArray⟩
def xBraces (R : Wr) (d : Nat) (l : List Tree) : ByteArray := (((⟨#[123, 10]⟩ ++ xLines R (d + 1) l) ++ xIn d) ++ ⟨#[125]⟩)
def xFun (R : Wr) (d : Nat) (t : Tree) : ByteArray := (((⟨#[40]⟩ ++ xVals R d (kid t 0).kids) ++ ⟨#[41, 32]⟩) ++ xBraces R d (kid t 1).kids)
def xGuard (R : Wr) (d : Nat) (t : Tree) : ByteArray := (((⟨#[40]⟩ ++ xVal R d 1 (kid t 0)) ++ ⟨#[41, 32]⟩) ++ xBraces R d (kid t 1).kids)
def xFirst (R : Wr) (d : Nat) (t : Tree) : ByteArray := if (decide (d = 0) && Lib.hasPrefix (xVal R d 1 (kid t 0)).data.toList [102, 110, 40]) = true then ((⟨#[40]⟩ ++ xVal R d 1 (kid t 0)) ++ ⟨#[41]⟩) else xVal R d 1 (kid t 0)
def xUnder (t : Tree) : ByteArray := if t.under = noText then noText else (⟨#[32, 60, 32]⟩ ++ t.under)
def xIf (R : Wr) (d : Nat) (t : Tree) : ByteArray := if 2 < t.kids.length then ((⟨#[105, 102, 32]⟩ ++ xGuard R d t) ++ (((⟨#[10]⟩ ++ xIn d) ++ ⟨#[101, 108, 115, 101, 32]⟩) ++ xBraces R d (kid t 2).kids)) else (⟨#[105, 102, 32]⟩ ++ xGuard R d t)
def xRet (R : Wr) (d : Nat) (t : Tree) : ByteArray := if t.kids.length = 0 then ⟨#[114, 101, 116, 117, 114, 110, 59]⟩ else ((⟨#[114, 101, 116, 117, 114, 110, 32]⟩ ++ xVal R d 1 (kid t 0)) ++ ⟨#[59]⟩)
def xSimple (R : Wr) (d : Nat) (t : Tree) : ByteArray :=
  if t.kind = 18 then xInt t.n else if t.kind = 19 then xStr t.text else if t.kind = 20 then ⟨#[116, 114, 117, 101]⟩ else if t.kind = 21 then ⟨#[102, 97, 108, 115, 101]⟩ else if t.kind = 22 then ⟨#[110, 105, 108]⟩ else if t.kind = 23 then ⟨#[116, 104, 105, 115]⟩
  else if t.kind = 25 then ((⟨#[110, 101, 119, 32]⟩ ++ t.text) ++ xArgs R d t.kids) else if t.kind = 26 then ((⟨#[115, 117, 112, 101, 114, 46]⟩ ++ t.text) ++ xArgs R d t.kids) else if t.kind = 27 then ((⟨#[91]⟩ ++ xVals R d t.kids) ++ ⟨#[93]⟩) else if t.kind = 28 then (⟨#[102, 110]⟩ ++ xFun R d t) else if t.kind = 29 then ⟨#[105, 110, 112, 117, 116, 40, 41]⟩ else if t.kind = 30 then ((⟨#[108, 101, 110, 40]⟩ ++ xVal R d 1 (kid t 0)) ++ ⟨#[41]⟩) else t.text
def xCalled (R : Wr) (d : Nat) (t : Tree) : ByteArray := if (kid t 0).kind = 42 then ((⟨#[40]⟩ ++ R.B d (kid t 0)) ++ ⟨#[41]⟩) else xVal R d 8 (kid t 0)
def xBare (R : Wr) (d : Nat) (t : Tree) : ByteArray :=
  if (signOfP t.kind).2 = true then ((((xVal R d (signOfP t.kind).1.2.2 (kid t 0) ++ ⟨#[32]⟩) ++ (signOfP t.kind).1.1) ++ ⟨#[32]⟩) ++ xVal R d ((signOfP t.kind).1.2.2 + 1) (kid t 1))
  else if t.kind = 40 then (⟨#[45]⟩ ++ xVal R d 7 (kid t 0)) else if t.kind = 41 then (⟨#[33]⟩ ++ xVal R d 7 (kid t 0)) else if t.kind = 42 then ((xVal R d 8 (kid t 0) ++ ⟨#[46]⟩) ++ t.text) else if t.kind = 43 then (((xVal R d 8 (kid t 0) ++ ⟨#[46]⟩) ++ t.text) ++ xArgs R d (t.kids.drop 1)) else if t.kind = 44 then (((xVal R d 8 (kid t 0) ++ ⟨#[91]⟩) ++ xVal R d 1 (kid t 1)) ++ ⟨#[93]⟩) else if t.kind = 45 then (xCalled R d t ++ xArgs R d (t.kids.drop 1)) else xSimple R d t
def xCatch (R : Wr) (d : Nat) (t : Tree) : ByteArray := (((⟨#[99, 97, 116, 99, 104, 32, 40]⟩ ++ t.text) ++ ⟨#[41, 32]⟩) ++ xBraces R d (kid t 0).kids)
def xStm (R : Wr) (d : Nat) (t : Tree) : ByteArray :=
  if t.kind = 2 then ((((⟨#[99, 108, 97, 115, 115, 32]⟩ ++ t.text) ++ xUnder t) ++ ⟨#[32]⟩) ++ xBraces R d t.kids) else if t.kind = 3 then ((⟨#[102, 105, 101, 108, 100, 32]⟩ ++ t.text) ++ ⟨#[59]⟩) else if t.kind = 4 then (t.text ++ xFun R d t) else if t.kind = 5 then ((⟨#[102, 110, 32]⟩ ++ t.text) ++ xFun R d t) else if t.kind = 8 then ((((⟨#[118, 97, 114, 32]⟩ ++ t.text) ++ ⟨#[32, 61, 32]⟩) ++ xVal R d 1 (kid t 0)) ++ ⟨#[59]⟩) else if t.kind = 9 then (((xFirst R d t ++ ⟨#[32, 61, 32]⟩) ++ xVal R d 1 (kid t 1)) ++ ⟨#[59]⟩) else if t.kind = 10 then xIf R d t
  else if t.kind = 11 then (⟨#[119, 104, 105, 108, 101, 32]⟩ ++ xGuard R d t) else if t.kind = 12 then xRet R d t else if t.kind = 13 then ((⟨#[116, 104, 114, 111, 119, 32]⟩ ++ xVal R d 1 (kid t 0)) ++ ⟨#[59]⟩) else if t.kind = 14 then ((((⟨#[116, 114, 121, 32]⟩ ++ xBraces R d (kid t 0).kids) ++ ⟨#[10]⟩) ++ xIn d) ++ xCatch R d (kid t 1)) else if t.kind = 15 then xCatch R d t else if t.kind = 16 then ((⟨#[112, 114, 105, 110, 116, 40]⟩ ++ xVal R d 1 (kid t 0)) ++ ⟨#[41, 59]⟩) else (xFirst R d t ++ ⟨#[59]⟩)
def xN : Nat → Wr
  | 0 => ⟨fun _ _ => noText, fun _ _ => noText⟩
  | f + 1 => ⟨xBare (xN f), xStm (xN f)⟩
/-- A program's text. -/
def xText (t : Tree) : ByteArray := xLines (xN 1200) 0 t.kids
end Go.Proofs.YtndgajlidckcdaaGreatDoor

namespace Go.Proofs.YtndgajlidckcdaaGreatDoor
open Go.RowKit
set_option linter.unusedVariables false

/-- A name. -/
structure NmOk (s : ByteArray) : Prop where
  le : s.size ≤ 16
  pos : 0 < s.size
  hd : lt (byteAt s 0) = true
  all : ∀ i, i < s.size → nb (byteAt s i) = true
  word : isW s = false
/-- What a token has. -/
structure TokOk (S : LS) : Prop where
  nm : S.kd = 2 → NmOk S.tx
  nt : S.kd ≠ 2 → S.kd ≠ 4 → S.tx = noText
  st : S.kd = 4 → S.tx.size ≤ 300
  nn : S.kd ≠ 3 → S.nn = 0
  nu : S.kd = 3 → ∃ u : Nat, u ≤ 9223372036854775808 ∧ S.nn = wrap64 u
theorem run_all (s : ByteArray) (B : Int → Bool) : ∀ (f p i : Nat), p ≤ i → i < runP s B f p → B (byteAt s i) = true
  | 0, p, i, h1, h2 => by rw [runP] at h2; omega
  | f + 1, p, i, h1, h2 => by
    rw [runP] at h2
    split at h2
    · rename_i hp
      split at h2
      · rename_i hb
        rcases Nat.lt_or_ge p i with h | h
        · exact run_all s B f (p + 1) i h h2
        · obtain rfl : p = i := by omega
          rw [← byteAt_eq hp]
          exact hb
      · omega
    · omega
theorem run_le (s : ByteArray) (B : Int → Bool) : ∀ (f p : Nat), p ≤ s.size → runP s B f p ≤ s.size
  | 0, p, h => h
  | f + 1, p, h => by
    rw [runP]
    split
    · split
      · exact run_le s B f (p + 1) (by omega)
      · exact h
    · exact h
theorem byteAt_ext {s : ByteArray} {a b i : Nat} (hb : b ≤ s.size) (hi : i < b - a) : byteAt (s.extract a b) i = byteAt s (a + i) := by
  have h1 : i < (s.extract a b).size := by rw [ByteArray.size_extract]; omega
  have h2 : a + i < s.size := by omega
  rw [← byteAt_eq h1, ← byteAt_eq h2, ByteArray.getElem_extract]
theorem word_ok {S : LS} (h : S.pl < S.src.size) (h1 : lt (byteAt S.src S.pl) = true) (h2 : isW (wordAt S) = false) (h3 : (wordAt S).size ≤ 16) : NmOk (wordAt S) := by
  have e : wordAt S = S.src.extract S.pl (wordEnd S) := rfl
  have hle : wordEnd S ≤ S.src.size := run_le _ _ _ _ (by omega)
  have hlt : S.pl < wordEnd S := by
    show S.pl < runP S.src nb (S.src.size - S.pl) S.pl
    rw [run_yes h (by rw [byteAt_eq h]; unfold nb; rw [h1]; rfl)]
    have : ∀ f p, p ≤ runP S.src nb f p := by
      intro f
      induction f with
      | zero => intro p; exact Nat.le_refl _
      | succ f ih =>
        intro p
        rw [runP]
        split
        · split
          · exact Nat.le_trans (Nat.le_succ p) (ih (p + 1))
          · exact Nat.le_refl _
        · exact Nat.le_refl _
    exact this _ _
  have hsz : (wordAt S).size = wordEnd S - S.pl := by rw [e, ByteArray.size_extract]; omega
  refine ⟨h3, by omega, ?_, fun i hi => ?_, h2⟩
  · rw [e, byteAt_ext hle (by omega)]
    exact h1
  · rw [e, byteAt_ext hle (by omega)]
    exact run_all _ _ (S.src.size - S.pl) S.pl _ (by omega) (show S.pl + i < wordEnd S by omega)
theorem advS_tok {S T : LS} (h0 : S.tx = noText) (h1 : S.nn = 0) (h2 : S.kd = 0) (h : advS S = .inr T) : TokOk T := by
  have hz : TokOk S := ⟨fun e => by omega, fun _ _ => h0, fun e => by omega, fun _ => h1, fun e => by omega⟩
  unfold advS at h
  split at h
  · rename_i hp
    split at h
    · rename_i hl
      split at h
      · cases h
        exact ⟨fun e => (by cases e), fun _ _ => h0, fun e => (by cases e), fun _ => h1, fun e => (by cases e)⟩
      · rename_i hw
        split at h
        · cases h
        · rename_i hs
          cases h
          exact ⟨fun _ => word_ok hp hl (by simpa using hw) (by omega), fun e => absurd rfl e, fun e => (by cases e), fun _ => h1, fun e => (by cases e)⟩
    · split at h
      · split at h
        · rename_i u hu
          split at h
          · cases h
          · rename_i hg
            cases h
            refine ⟨fun e => (by cases e), fun _ _ => h0, fun e => (by cases e), fun e => absurd rfl e, fun _ => ⟨u, ?_, rfl⟩⟩
            simp only [decide_eq_true_eq] at hg
            omega
        · cases h
      · split at h
        · split at h
          · cases h
          · split at h
            · cases h
            · rename_i hs
              cases h
              exact ⟨fun e => (by cases e), fun _ e => absurd rfl e, fun _ => by show ByteArray.size _ ≤ 300; simp only [ByteArray.size, List.size_toArray]; omega, fun _ => h1, fun e => (by cases e)⟩
        · split at h
          · cases h
          · cases h
            exact ⟨fun e => (by cases e), fun _ _ => h0, fun e => (by cases e), fun _ => h1, fun e => (by cases e)⟩
  · cases h
    exact hz
theorem advP_tok {S T : LS} (h : advP S = .inr T) : TokOk T := by
  unfold advP at h
  exact advS_tok rfl rfl rfl h
def vK (t : Tree) : Prop := 18 ≤ t.kind ∧ t.kind ≤ 45
def sK (t : Tree) : Prop := 8 ≤ t.kind ∧ t.kind ≤ 17 ∧ t.kind ≠ 15
/-- Which parts a kind asks for. -/
def cls (k : Nat) : Nat := [15, 14, 8, 0, 2, 2, 9, 10, 3, 16, 6, 7, 11, 3, 12, 13, 3, 3, 0, 0, 0, 0, 0, 0, 0, 1, 1, 1, 2, 0, 3, 4, 4, 4, 4, 4, 4, 4, 4, 4, 3, 3, 3, 5, 4, 5].getD k 15
def HereC : Nat → List Tree → Prop
  | 0, ks => ks = []
  | 1, ks => ks.length ≤ 8 ∧ ∀ k ∈ ks, vK k
  | 2, ks => ∃ p b, ks = [p, b] ∧ p.kind = 6 ∧ b.kind = 7
  | 3, ks => ∃ a, ks = [a] ∧ vK a
  | 4, ks => ∃ a b, ks = [a, b] ∧ vK a ∧ vK b
  | 5, ks => ∃ a l, ks = a :: l ∧ vK a ∧ l.length ≤ 8 ∧ ∀ k ∈ l, vK k
  | 6, ks => ∃ c b, vK c ∧ b.kind = 7 ∧ (ks = [c, b] ∨ ∃ e, ks = [c, b, e] ∧ e.kind = 7)
  | 7, ks => ∃ c b, ks = [c, b] ∧ vK c ∧ b.kind = 7
  | 8, ks => ∃ fs ms, ks = fs ++ ms ∧ fs.length ≤ 8 ∧ (∀ k ∈ fs, k.kind = 3) ∧ ∀ k ∈ ms, k.kind = 4
  | 9, ks => ks.length ≤ 8 ∧ ∀ k ∈ ks, k.kind = 24
  | 10, ks => ∀ k ∈ ks, sK k
  | 11, ks => ks = [] ∨ ∃ a, ks = [a] ∧ vK a
  | 12, ks => ∃ b c, ks = [b, c] ∧ b.kind = 7 ∧ c.kind = 15
  | 13, ks => ∃ b, ks = [b] ∧ b.kind = 7
  | 14, ks => ∀ k ∈ ks, sK k ∨ k.kind = 2 ∨ k.kind = 5
  | 16, ks => ∃ a b, ks = [a, b] ∧ vK a ∧ vK b ∧ settable a.kind = true
  | _, _ => False
def nameK (k : Nat) : Bool := k == 2 || k == 3 || k == 4 || k == 5 || k == 8 || k == 15 || k == 24 || k == 25 || k == 26 || k == 42 || k == 43
/-- What a kind asks of its texts and its number. -/
structure TextOk (k : Nat) (tx un : ByteArray) (n : Int) : Prop where
  nm : nameK k = true → NmOk tx
  nt : nameK k = false → k ≠ 19 → tx = noText
  st : k = 19 → tx.size ≤ 300
  un : un = noText ∨ k = 2 ∧ NmOk un
  nn : k ≠ 18 → n = 0
  nu : k = 18 → ∃ u : Nat, u ≤ 9223372036854775808 ∧ n = wrap64 u
def HereX (t : Tree) : Prop := TextOk t.kind t.text t.under t.n ∧ HereC (cls t.kind) t.kids
def WxN : Nat → Tree → Prop
  | 0, _ => True
  | f + 1, t => HereX t ∧ ∀ k ∈ t.kids, WxN f k
def Wx (t : Tree) : Prop := ∀ f, WxN f t
theorem Wx.here {t : Tree} (h : Wx t) : HereX t := (h 1).1
theorem Wx.kid {t k : Tree} (h : Wx t) (hk : k ∈ t.kids) : Wx k := fun f => (h (f + 1)).2 k hk
theorem Wx.mk {t : Tree} (h : HereX t) (hk : ∀ k ∈ t.kids, Wx k) : Wx t
  | 0 => trivial
  | f + 1 => ⟨h, fun k hm => hk k hm f⟩
abbrev AllX (Q : Tree → Prop) (l : List Tree) : Prop := ∀ t ∈ l, Wx t ∧ Q t
theorem AllX.wx {Q : Tree → Prop} {l : List Tree} (h : AllX Q l) : ∀ t ∈ l, Wx t := fun t ht => (h t ht).1
theorem AllX.q {Q : Tree → Prop} {l : List Tree} (h : AllX Q l) : ∀ t ∈ l, Q t := fun t ht => (h t ht).2
theorem AllX.nil {Q : Tree → Prop} : AllX Q [] := fun _ h => by cases h
theorem AllX.snoc {Q : Tree → Prop} {l : List Tree} {t : Tree} (hl : AllX Q l) (h : Wx t ∧ Q t) : AllX Q (l ++ [t]) := fun u hu => by
  rcases List.mem_append.1 hu with q | q
  · exact hl u q
  · rw [List.mem_singleton.1 q]; exact h
/-- A node without texts; one with a name. -/
theorem Wx.bare {k ln : Nat} {ks : List Tree} (h0 : (nameK k || k == 19 || k == 18) = false) (h : HereC (cls k) ks) (hk : ∀ t ∈ ks, Wx t) : Wx (nd k ln ks) := by
  simp only [Bool.or_eq_false_iff, beq_eq_false_iff_ne] at h0
  exact Wx.mk ⟨⟨fun e => (by rw [show (nd k ln ks).kind = k from rfl, h0.1.1] at e; cases e), fun _ _ => rfl, fun e => absurd e h0.1.2, Or.inl rfl, fun _ => rfl, fun e => absurd e h0.2⟩, h⟩ hk
theorem Wx.named {k ln : Nat} {s : ByteArray} {ks : List Tree} (h0 : nameK k = true) (h18 : (k == 18 || k == 19) = false) (hs : NmOk s) (h : HereC (cls k) ks) (hk : ∀ t ∈ ks, Wx t) : Wx (ndT k s ln ks) := by
  simp only [Bool.or_eq_false_iff, beq_eq_false_iff_ne] at h18
  exact Wx.mk ⟨⟨fun _ => hs, fun e => (by rw [show (ndT k s ln ks).kind = k from rfl, h0] at e; cases e), fun e => absurd e h18.2, Or.inl rfl, fun _ => rfl, fun e => absurd e h18.1⟩, h⟩ hk
def Endx {α : Type} (Q : α → Prop) (r : Res α) : Prop := ∀ a S, r = .inr (a, S) → Q a ∧ TokOk S
section
variable {α β : Type} {Q : α → Prop} {R : β → Prop} {S : LS}
theorem xb {t : Res α} {k : α → LS → Res β} (h : Endx Q t) (hk : ∀ a S, Q a → TokOk S → Endx R (k a S)) : Endx R (bnd t k) := fun b S e => by
  obtain ⟨a, S1, h1, h2⟩ := bnd_some e
  exact hk a S1 (h a S1 h1).1 (h a S1 h1).2 b S h2
theorem xi {a : α} (h : Q a) (hS : TokOk S) : Endx Q (.inr (a, S)) := fun _ _ e => by cases e; exact ⟨h, hS⟩
theorem xl {f : Int × Nat} : Endx Q (.inl f : Res α) := fun _ _ e => by cases e
theorem xf {c : Prop} [Decidable c] {a b : Res α} (ha : c → Endx Q a) (hb : ¬ c → Endx Q b) : Endx Q (if c then a else b) := by
  split
  · rename_i h; exact ha h
  · rename_i h; exact hb h
end
theorem take_x (S : LS) : Endx (fun _ => True) (takeP S) := fun a T h => ⟨trivial, advP_tok (takeP_ok h)⟩
section
variable {β : Type} {R : β → Prop} {S : LS}
theorem xt {k : Unit → LS → Res β} (hk : ∀ S1, TokOk S1 → Endx R (k () S1)) : Endx R (bnd (takeP S) k) := xb (take_x S) fun _ S1 _ h => hk S1 h
theorem want_x (m : ByteArray) (S : LS) : Endx (fun _ => True) (wantP m S) := by
  unfold wantP
  exact xf (fun _ => take_x S) (fun _ => xl)
theorem xw {m : ByteArray} {k : Unit → LS → Res β} (hk : ∀ S1, TokOk S1 → Endx R (k () S1)) : Endx R (bnd (wantP m S) k) := xb (want_x m S) fun _ S1 _ h => hk S1 h
theorem accept_x (m : ByteArray) {S : LS} (hS : TokOk S) : Endx (fun _ => True) (acceptP m S) := by
  unfold acceptP
  exact xf (fun _ => xb (take_x S) fun _ _ _ h => xi trivial h) (fun _ => xi trivial hS)
theorem xa {m : ByteArray} {k : Bool → LS → Res β} (hS : TokOk S) (hk : ∀ b S1, TokOk S1 → Endx R (k b S1)) : Endx R (bnd (acceptP m S) k) := xb (accept_x m hS) fun b S1 _ h => hk b S1 h
theorem xm {n : Nat} {k : Unit → LS → Res β} (hS : TokOk S) (hk : n ≠ 8 → ∀ S1, TokOk S1 → Endx R (k () S1)) : Endx R (bnd (limitP n S) k) := xb (Q := fun _ => n ≠ 8) (fun a T h => by
  have hn : n ≠ 8 := fun e => by rw [limitP, if_pos e] at h; cases h
  rw [limit_on h]; exact ⟨hn, hS⟩) fun _ S1 hn h => hk hn S1 h
theorem name_x {S : LS} (hS : TokOk S) : Endx NmOk (nameP S) := by
  unfold nameP
  exact xf (fun h2 => xb (take_x S) fun _ _ _ h => xi (hS.nm h2) h) (fun _ => xl)
theorem xn {k : ByteArray → LS → Res β} (hS : TokOk S) (hk : ∀ s S1, NmOk s → TokOk S1 → Endx R (k s S1)) : Endx R (bnd (nameP S) k) := xb (name_x hS) fun s S1 h1 h => hk s S1 h1 h
end
def Rdx (Q : Tree → Prop) (P : LS → Res Tree) : Prop := ∀ S, TokOk S → Endx (fun t => Wx t ∧ Q t) (P S)
theorem param_x : Rdx (fun t => t.kind = 24) paramP := fun _ hS => xn hS fun _ _ hs h1 => xi ⟨Wx.named rfl rfl hs rfl (fun _ h => by cases h), rfl⟩ h1
theorem listLoop_x {Q : Tree → Prop} {shut : ByteArray} {P : LS → Res Tree} (hP : Rdx Q P) : ∀ (f : Nat) (acc : List Tree) (S : LS), AllX Q acc → acc.length ≤ 8 → TokOk S → Endx (fun l => AllX Q l ∧ l.length ≤ 8) (listLoop shut P f acc S)
  | 0, _, _, _, _, _ => xl
  | f + 1, acc, S, h, hl, hS => xm hS fun hn S0 h0 => xb (hP S0 h0) fun t S1 ht h1 => xa h1 fun b S2 h2 => xf (fun _ => xi ⟨h.snoc ht, by rw [List.length_append]; show acc.length + 1 ≤ 8; omega⟩ h2) (fun _ => xw fun S3 h3 => listLoop_x hP f _ S3 (h.snoc ht) (by rw [List.length_append]; show acc.length + 1 ≤ 8; omega) h3)
theorem listed_x {Q : Tree → Prop} {shut : ByteArray} {P : LS → Res Tree} (hP : Rdx Q P) (S : LS) (hS : TokOk S) : Endx (fun l => AllX Q l ∧ l.length ≤ 8) (listedP shut P S) := xa hS fun _ S1 h1 => xf (fun _ => xi ⟨AllX.nil, Nat.zero_le _⟩ h1) (fun _ => listLoop_x hP 9 [] S1 AllX.nil (Nat.zero_le _) h1)
theorem params_x : Rdx (fun t => t.kind = 6) paramsP := fun _ _ => xw fun S1 h1 => xb (listed_x param_x S1 h1) fun ks _ h h2 => xi ⟨Wx.bare (k := 6) rfl (show ks.length ≤ 8 ∧ ∀ k ∈ ks, k.kind = 24 from ⟨h.2, h.1.q⟩) h.1.wx, rfl⟩ h2
theorem until_x {Q : Tree → Prop} {shut : ByteArray} {P : LS → Res Tree} (hP : Rdx Q P) : ∀ (f : Nat) (acc : List Tree) (S : LS) (fs : List Tree), (∃ ms, acc = fs ++ ms ∧ AllX Q ms) → TokOk S → Endx (fun l => ∃ ms, l = fs ++ ms ∧ AllX Q ms) (untilP shut P f acc S)
  | 0, _, _, _, _, _ => xl
  | f + 1, acc, S, fs, h, hS => xa hS fun _ S1 h1 => xf (fun _ => xi h h1) (fun _ => xb (hP S1 h1) fun t S2 ht h2 => until_x hP f _ S2 fs (by
    obtain ⟨ms, e, hm⟩ := h
    exact ⟨ms ++ [t], by rw [e, List.append_assoc], hm.snoc ht⟩) h2)
/-- What reads one deeper. -/
structure LowX (L : Low) : Prop where
  v : Rdx vK L.V
  s : Rdx sK L.S
  n : Rdx vK L.N
theorem vk_of {t : Tree} {k : Nat} (e : t.kind = k) (h : (Nat.ble 18 k && Nat.ble k 45) = true) : vK t := by
  simp only [Bool.and_eq_true, Nat.ble_eq] at h
  exact ⟨by rw [e]; exact h.1, by rw [e]; exact h.2⟩
theorem sk_of {t : Tree} {k : Nat} (e : t.kind = k) (h : (Nat.ble 8 k && Nat.ble k 17 && k != 15) = true) : sK t := by
  simp only [Bool.and_eq_true, Nat.ble_eq, bne_iff_ne] at h
  exact ⟨by rw [e]; exact h.1.1, by rw [e]; exact h.1.2, by rw [e]; exact h.2⟩
theorem one_x {a : Tree} (h : Wx a) : ∀ t ∈ [a], Wx t := fun _ e => by rw [List.mem_singleton.1 e]; exact h
theorem two_x {a b : Tree} (ha : Wx a) (hb : Wx b) : ∀ t ∈ [a, b], Wx t := fun t e => by
  rcases List.mem_cons.1 e with rfl | e
  · exact ha
  · rw [List.mem_singleton.1 e]; exact hb
theorem cons_x {a : Tree} {l : List Tree} (ha : Wx a) (hl : ∀ t ∈ l, Wx t) : ∀ t ∈ a :: l, Wx t := fun t e => by
  rcases List.mem_cons.1 e with rfl | e
  · exact ha
  · exact hl t e
theorem block_x {L : Low} (hL : LowX L) : Rdx (fun t => t.kind = 7) (blockP L) := fun _ _ => xw fun S1 h1 => xb (until_x hL.s 3002 [] S1 [] ⟨[], rfl, AllX.nil⟩ h1) fun ks _ h h2 => xi (by
  obtain ⟨ms, e, hm⟩ := h
  rw [List.nil_append] at e
  subst e
  exact ⟨Wx.bare (k := 7) rfl (show ∀ k ∈ ks, sK k from hm.q) hm.wx, rfl⟩) h2
theorem body_x {L : Low} (hL : LowX L) (S : LS) (hS : TokOk S) : Endx (fun pb => (Wx pb.1 ∧ pb.1.kind = 6) ∧ Wx pb.2 ∧ pb.2.kind = 7) (bodyP L S) := xb (params_x S hS) fun _ S1 hp h1 => xb (block_x hL S1 h1) fun _ _ hb h2 => xi ⟨hp, hb⟩ h2
theorem inPar_x {L : Low} (hL : LowX L) : Rdx vK (inParP L) := fun _ _ => xw fun S1 h1 => xb (hL.v S1 h1) fun _ _ h _ => xw fun _ h3 => xi h h3
theorem args_x {L : Low} (hL : LowX L) (S : LS) (hS : TokOk S) : Endx (fun l => AllX vK l ∧ l.length ≤ 8) (argsP L S) := listed_x hL.v S hS
theorem method_x {L : Low} (hL : LowX L) : Rdx (fun t => t.kind = 4) (methodP L) := fun _ hS => xn hS fun _ S2 hs h2 => xb (body_x hL S2 h2) fun pb _ h h3 => xi ⟨Wx.named (k := 4) rfl rfl hs ⟨pb.1, pb.2, rfl, h.1.2, h.2.2⟩ (two_x h.1.1 h.2.1), rfl⟩ h3
theorem fn_x {L : Low} (hL : LowX L) : Rdx (fun t => t.kind = 5) (fnP L) := fun _ _ => xt fun _ h1 => xn h1 fun _ S2 hs h2 => xb (body_x hL S2 h2) fun pb _ h h3 => xi ⟨Wx.named (k := 5) rfl rfl hs ⟨pb.1, pb.2, rfl, h.1.2, h.2.2⟩ (two_x h.1.1 h.2.1), rfl⟩ h3
theorem lambda_x {L : Low} (hL : LowX L) : Rdx vK (lambdaP L) := fun _ _ => xt fun S1 h1 => xb (body_x hL S1 h1) fun pb _ h h3 => xi ⟨Wx.bare (k := 28) rfl ⟨pb.1, pb.2, rfl, h.1.2, h.2.2⟩ (two_x h.1.1 h.2.1), vk_of (k := 28) rfl rfl⟩ h3
theorem field_x (n : Nat) : Rdx (fun t => t.kind = 3 ∧ n ≠ 8) (fieldP n) := fun _ _ => xt fun _ h1 => xm h1 fun hn _ h2 => xn h2 fun _ _ hs _ => xw fun _ h4 => xi ⟨Wx.named (k := 3) rfl rfl hs rfl (fun _ h => by cases h), rfl, hn⟩ h4
theorem fields_x : ∀ (f : Nat) (acc : List Tree) (S : LS), AllX (fun t => t.kind = 3) acc → acc.length ≤ 8 → TokOk S → Endx (fun l => AllX (fun t => t.kind = 3) l ∧ l.length ≤ 8) (fieldsP f acc S)
  | 0, _, _, _, _, _ => xl
  | f + 1, acc, S, h, hl, hS => xf (fun _ => xb (field_x acc.length S hS) fun t S1 ht h1 => fields_x f _ S1 (h.snoc ⟨ht.1, ht.2.1⟩) (by have := ht.2.2; rw [List.length_append]; show acc.length + 1 ≤ 8; omega) h1) (fun _ => xi ⟨h, hl⟩ hS)
theorem under_x (S : LS) (hS : TokOk S) : Endx (fun s => s = noText ∨ NmOk s) (underP S) := xa hS fun _ S1 h1 => xf (fun _ => fun a T e => ⟨Or.inr (name_x h1 a T e).1, (name_x h1 a T e).2⟩) (fun _ => xi (Or.inl rfl) h1)
theorem class_x {L : Low} (hL : LowX L) : Rdx (fun t => t.kind = 2) (classP L) := fun _ _ => xt fun _ h1 => xn h1 fun s S2 hs h2 => xb (under_x S2 h2) fun u _ hu _ => xw fun S4 h4 => xb (fields_x 10 [] S4 AllX.nil (Nat.zero_le _) h4) fun fs S5 hf h5 => xb (until_x (method_x hL) 3002 fs S5 fs ⟨[], by rw [List.append_nil], AllX.nil⟩ h5) fun ks _ h h6 => xi (by
  obtain ⟨ms, e, hm⟩ := h
  refine ⟨Wx.mk ⟨⟨fun _ => hs, fun e => (by cases e), fun e => (by cases e), hu.imp (fun h => h) (fun h => ⟨rfl, h⟩), fun _ => rfl, fun e => (by cases e)⟩, ⟨fs, ms, e, hf.2, hf.1.q, hm.q⟩⟩ (fun t ht => ?_), rfl⟩
  rw [show ks = fs ++ ms from e] at ht
  rcases List.mem_append.1 ht with q | q
  · exact hf.1.wx t q
  · exact hm.wx t q) h6
theorem outermost_x {L : Low} (hL : LowX L) : Rdx (fun t => sK t ∨ t.kind = 2 ∨ t.kind = 5) (outermostP L) := fun S hS => xf (fun _ a T e => ⟨⟨(class_x hL S hS a T e).1.1, Or.inr (Or.inl (class_x hL S hS a T e).1.2)⟩, (class_x hL S hS a T e).2⟩) (fun _ => xf (fun _ a T e => ⟨⟨(fn_x hL S hS a T e).1.1, Or.inr (Or.inr (fn_x hL S hS a T e).1.2)⟩, (fn_x hL S hS a T e).2⟩) (fun _ a T e => ⟨⟨(hL.s S hS a T e).1.1, Or.inl (hL.s S hS a T e).1.2⟩, (hL.s S hS a T e).2⟩))
theorem prog_x {L : Low} (hL : LowX L) : ∀ (f : Nat) (acc : List Tree) (S : LS), AllX (fun t => sK t ∨ t.kind = 2 ∨ t.kind = 5) acc → TokOk S → Endx (AllX (fun t => sK t ∨ t.kind = 2 ∨ t.kind = 5)) (progLoop L f acc S)
  | 0, _, _, _, _ => xl
  | f + 1, acc, S, h, hS => xf (fun _ => xi h hS) (fun _ => xb (outermost_x hL S hS) fun t S1 ht h1 => prog_x hL f _ S1 (h.snoc ht) h1)
theorem program_x {L : Low} (hL : LowX L) : Rdx (fun t => t.kind = 1) (programP L) := fun S hS => xb (prog_x hL 3002 [] S AllX.nil hS) fun ks _ h h1 => xi ⟨Wx.bare (k := 1) rfl (show ∀ k ∈ ks, sK k ∨ k.kind = 2 ∨ k.kind = 5 from h.q) h.wx, rfl⟩ h1
theorem close_x {Q : Tree → Prop} {P : LS → Res Tree} (hP : Rdx Q P) : Rdx Q (closeP P) := fun S hS => xb (hP S hS) fun _ _ h _ => xw fun _ h2 => xi h h2
theorem endP_x {k : Nat} (h0 : (nameK k || k == 19 || k == 18) = false) (hc : cls k = 3) (hs : (Nat.ble 8 k && Nat.ble k 17 && k != 15) = true) {P : LS → Res Tree} (hP : Rdx vK P) : Rdx sK (endP k P) := fun _ _ => xt fun S1 h1 => xb (close_x hP S1 h1) fun t _ h h2 => xi ⟨Wx.bare h0 (by rw [hc]; exact ⟨t, rfl, h.2⟩) (one_x h.1), sk_of rfl hs⟩ h2
theorem variable_x {L : Low} (hL : LowX L) : Rdx sK (variableP L) := fun _ _ => xt fun _ h1 => xn h1 fun _ _ hs _ => xw fun S3 h3 => xb (close_x hL.v S3 h3) fun t _ h h4 => xi ⟨Wx.named (k := 8) rfl rfl hs ⟨t, rfl, h.2⟩ (one_x h.1), sk_of (k := 8) rfl rfl⟩ h4
theorem guarded_x {L : Low} (hL : LowX L) (k : Nat) (S : LS) : Endx (fun t => ∃ c b ln, t = nd k ln [c, b] ∧ (Wx c ∧ vK c) ∧ Wx b ∧ b.kind = 7) (guardedP L k S) := xt fun S1 h1 => xb (inPar_x hL S1 h1) fun c S2 hc h2 => xb (block_x hL S2 h2) fun b _ hb h3 => xi ⟨c, b, _, rfl, hc, hb⟩ h3
theorem while_x {L : Low} (hL : LowX L) : Rdx sK (guardedP L 11) := fun S hS a T e => by
  obtain ⟨⟨c, b, ln, rfl, hc, hb⟩, h2⟩ := guarded_x hL 11 S a T e
  exact ⟨⟨Wx.bare (k := 11) rfl ⟨c, b, rfl, hc.2, hb.2⟩ (two_x hc.1 hb.1), sk_of (k := 11) rfl rfl⟩, h2⟩
theorem choice_x {L : Low} (hL : LowX L) : Rdx sK (choiceP L) := fun S hS => xb (guarded_x hL 10 S) fun t _ ht h1 => xa h1 fun _ S2 h2 => xf (fun _ => xb (block_x hL S2 h2) fun u _ hu h3 => xi (by
    obtain ⟨c, b, ln, rfl, hc, hb⟩ := ht
    exact ⟨Wx.bare (k := 10) (ln := ln) rfl ⟨c, b, hc.2, hb.2, Or.inr ⟨u, rfl, hu.2⟩⟩ (cons_x hc.1 (two_x hb.1 hu.1)), sk_of (k := 10) rfl rfl⟩) h3) (fun _ => xi (by
    obtain ⟨c, b, ln, rfl, hc, hb⟩ := ht
    exact ⟨Wx.bare (k := 10) rfl ⟨c, b, hc.2, hb.2, Or.inl rfl⟩ (two_x hc.1 hb.1), sk_of (k := 10) rfl rfl⟩) h2)
theorem returned_x {L : Low} (hL : LowX L) : Rdx sK (returnedP L) := fun _ _ => xt fun _ h1 => xa h1 fun _ S2 h2 => xf (fun _ => xi ⟨Wx.bare (k := 12) rfl (Or.inl rfl) (fun _ h => by cases h), sk_of (k := 12) rfl rfl⟩ h2) (fun _ => xb (close_x hL.v S2 h2) fun t _ h h3 => xi ⟨Wx.bare (k := 12) rfl (Or.inr ⟨t, rfl, h.2⟩) (one_x h.1), sk_of (k := 12) rfl rfl⟩ h3)
theorem catch_x {L : Low} (hL : LowX L) : Rdx (fun t => t.kind = 15) (catchP L) := fun _ _ => xw fun _ _ => xw fun _ h2 => xn h2 fun _ _ hs _ => xw fun S4 h4 => xb (block_x hL S4 h4) fun b _ hb h5 => xi ⟨Wx.named (k := 15) rfl rfl hs ⟨b, rfl, hb.2⟩ (one_x hb.1), rfl⟩ h5
theorem try_x {L : Low} (hL : LowX L) : Rdx sK (tryP L) := fun _ _ => xt fun S1 h1 => xb (block_x hL S1 h1) fun b S2 hb h2 => xb (catch_x hL S2 h2) fun c _ hc h3 => xi ⟨Wx.bare (k := 14) rfl ⟨b, c, rfl, hb.2, hc.2⟩ (two_x hb.1 hc.1), sk_of (k := 14) rfl rfl⟩ h3
theorem bareS_x {L : Low} (hL : LowX L) : Rdx sK (bareP L) := fun S hS => xb (hL.v S hS) fun t _ ht _ => xf (fun _ => xf (fun hset => xt fun S2 h2 => xb (hL.v S2 h2) fun u _ hu _ => xw fun _ h4 => xi ⟨Wx.bare (k := 9) rfl ⟨t, u, rfl, ht.2, hu.2, hset⟩ (two_x ht.1 hu.1), sk_of (k := 9) rfl rfl⟩ h4) (fun _ => xl)) (fun _ => xw fun _ h2 => xi ⟨Wx.bare (k := 17) rfl ⟨t, rfl, ht.2⟩ (one_x ht.1), sk_of (k := 17) rfl rfl⟩ h2)
theorem any_x {L : Low} (hL : LowX L) : Rdx sK (anyP L) := fun S hS => xf (fun _ => variable_x hL S hS) (fun _ => xf (fun _ => choice_x hL S hS) (fun _ => xf (fun _ => while_x hL S hS) (fun _ => xf (fun _ => returned_x hL S hS) (fun _ => xf (fun _ => endP_x rfl rfl rfl hL.v S hS) (fun _ => xf (fun _ => endP_x rfl rfl rfl (inPar_x hL) S hS) (fun _ => xf (fun _ => try_x hL S hS) (fun _ => bareS_x hL S hS)))))))
theorem joiner_pair (lev : Nat) (S : LS) (h : joinerP lev S ≠ 0) : (Nat.ble 31 (joinerP lev S) && Nat.ble (joinerP lev S) 39) = true := by
  unfold joinerP at h ⊢
  have all : (signRows.all fun s => Nat.ble 31 s.2.1 && Nat.ble s.2.1 39) = true := by decide
  split
  · rename_i s hs
    exact List.all_eq_true.1 all s (List.mem_of_find?_eq_some hs)
  · rename_i hs
    rw [hs] at h
    exact absurd rfl h
theorem pair_cls : ∀ k, k < 46 → (Nat.ble 31 k && Nat.ble k 39) = true → cls k = 4 ∧ (nameK k || k == 19 || k == 18) = false ∧ (Nat.ble 18 k && Nat.ble k 45) = true := by decide
theorem pair_x {k : Nat} (hk : (Nat.ble 31 k && Nat.ble k 39) = true) {a b : Tree} (ha : Wx a ∧ vK a) (hb : Wx b ∧ vK b) (ln : Nat) : Wx (nd k ln [a, b]) ∧ vK (nd k ln [a, b]) := by
  have h46 : k < 46 := by simp only [Bool.and_eq_true, Nat.ble_eq] at hk; omega
  obtain ⟨h1, h2, h3⟩ := pair_cls k h46 hk
  exact ⟨Wx.bare h2 (by rw [h1]; exact ⟨a, b, rfl, ha.2, hb.2⟩) (two_x ha.1 hb.1), vk_of rfl h3⟩
theorem joinLoop_x {lev : Nat} {P : LS → Res Tree} (hP : Rdx vK P) : ∀ (f : Nat) (t : Tree) (S : LS), Wx t ∧ vK t → TokOk S → Endx (fun t => Wx t ∧ vK t) (joinLoop lev P f t S)
  | 0, _, _, _, _ => xl
  | f + 1, t, S, h, hS => xf (fun _ => xi h hS) (fun hj => xt fun S1 h1 => xb (hP S1 h1) fun _ S2 hu h2 => joinLoop_x hP f _ S2 (pair_x (joiner_pair lev S hj) h hu _) h2)
theorem jo_x {P : LS → Res Tree} (hP : Rdx vK P) : ∀ (n : Nat), Rdx vK (jo P n)
  | 0 => hP
  | n + 1 => fun S hS => xb (jo_x hP n S hS) fun t S1 h h1 => joinLoop_x (jo_x hP n) 3002 t S1 h h1
theorem leaf_x {k : Nat} {S : LS} (h : TextOk k S.tx noText S.nn) (hc : cls k = 0) (hv : (Nat.ble 18 k && Nat.ble k 45) = true) : Endx (fun t => Wx t ∧ vK t) (leafP k S) := xt fun _ h1 => xi ⟨Wx.mk ⟨h, by show HereC (cls k) []; rw [hc]; rfl⟩ (fun _ h => by cases h), vk_of rfl hv⟩ h1
theorem const_x {S : LS} (hS : TokOk S) (h : constP S ≠ 0) : Endx (fun t => Wx t ∧ vK t) (leafP (constP S) S) := by
  have hkd : S.kd = 1 ∧ (constP S = 20 ∨ constP S = 21 ∨ constP S = 22 ∨ constP S = 23) := by
    have kd : ∀ m, S.is m = true → S.kd = 1 := fun m e => by unfold LS.is at e; simp only [Bool.and_eq_true, beq_iff_eq] at e; exact e.1
    unfold constP at h ⊢
    split
    · rename_i e; exact ⟨kd _ e, Or.inl rfl⟩
    · split
      · rename_i e; exact ⟨kd _ e, Or.inr (Or.inl rfl)⟩
      · split
        · rename_i e; exact ⟨kd _ e, Or.inr (Or.inr (Or.inl rfl))⟩
        · split
          · rename_i e; exact ⟨kd _ e, Or.inr (Or.inr (Or.inr rfl))⟩
          · rename_i a b c d
            rw [if_neg a, if_neg b, if_neg c, if_neg d] at h
            exact absurd rfl h
  have ht := hS.nt (by omega) (by omega)
  have hn := hS.nn (by omega)
  rcases hkd.2 with e | e | e | e <;> rw [e] <;> exact leaf_x ⟨fun e => (by cases e), fun _ _ => ht, fun e => (by cases e), Or.inl rfl, fun _ => hn, fun e => (by cases e)⟩ rfl rfl
theorem call_x {t : Tree} (h : Wx t ∧ vK t) {l : List Tree} (hl : AllX vK l ∧ l.length ≤ 8) : Wx (around 45 t l) ∧ vK (around 45 t l) := ⟨Wx.bare (k := 45) rfl ⟨t, l, rfl, h.2, hl.2, hl.1.q⟩ (cons_x h.1 hl.1.wx), vk_of (k := 45) rfl rfl⟩
theorem member_x {L : Low} (hL : LowX L) {t : Tree} (h : Wx t ∧ vK t) : Rdx vK (memberP L t) := fun _ hS => xn hS fun _ _ hs h1 => xa h1 fun _ S2 h2 => xf (fun _ => xb (args_x hL S2 h2) fun l _ hu h3 => xi ⟨Wx.named (k := 43) rfl rfl hs ⟨t, l, rfl, h.2, hu.2, hu.1.q⟩ (cons_x h.1 hu.1.wx), vk_of (k := 43) rfl rfl⟩ h3) (fun _ => xi ⟨Wx.named (k := 42) rfl rfl hs ⟨t, rfl, h.2⟩ (one_x h.1), vk_of (k := 42) rfl rfl⟩ h2)
theorem suf_x {L : Low} (hL : LowX L) : ∀ (f : Nat) (t : Tree) (S : LS), Wx t ∧ vK t → TokOk S → Endx (fun t => Wx t ∧ vK t) (sufLoop L f t S)
  | 0, _, _, _, _ => xl
  | f + 1, t, S, h, hS => xa hS fun _ S1 h1 => xf (fun _ => xb (member_x hL h S1 h1) fun u S2 hu h2 => suf_x hL f u S2 hu h2) (fun _ => xa h1 fun _ S2 h2 => xf (fun _ => xb (hL.v S2 h2) fun u _ hu _ => xw fun S4 h4 => suf_x hL f _ S4 ⟨Wx.bare (k := 44) rfl ⟨t, u, rfl, h.2, hu.2⟩ (two_x h.1 hu.1), vk_of (k := 44) rfl rfl⟩ h4) (fun _ => xa h2 fun _ S3 h3 => xf (fun _ => xb (args_x hL S3 h3) fun _ S4 hu h4 => suf_x hL f _ S4 (call_x h hu) h4) (fun _ => xi h h3)))
theorem named_x {L : Low} (hL : LowX L) {k : Nat} (h0 : nameK k = true) (h1 : (k == 18 || k == 19) = false) (hc : cls k = 1) (hv : (Nat.ble 18 k && Nat.ble k 45) = true) (ln : Nat) : Rdx vK (namedP L k ln) := fun _ hS => xn hS fun _ _ hs _ => xw fun S2 h2 => xb (args_x hL S2 h2) fun l _ h h3 => xi ⟨Wx.named h0 h1 hs (by rw [hc]; exact ⟨h.2, h.1.q⟩) h.1.wx, vk_of rfl hv⟩ h3
theorem marked_x {L : Low} (hL : LowX L) : Rdx vK (markedP L) := fun S hS => by
  unfold markedP
  refine xf (fun _ => inPar_x hL S hS) (fun _ => xf (fun _ => xt fun S1 h1 => xb (listed_x hL.v S1 h1) fun l _ h h2 => xi ⟨Wx.bare (k := 27) rfl ⟨h.2, h.1.q⟩ h.1.wx, vk_of (k := 27) rfl rfl⟩ h2) (fun _ => xf (fun _ => lambda_x hL S hS) (fun _ => xf (fun _ => xt fun S1 h1 => named_x hL rfl rfl rfl rfl _ S1 h1) (fun _ => xf (fun _ => xt fun _ _ => xw fun S2 h2 => named_x hL rfl rfl rfl rfl _ S2 h2) (fun _ => xf (fun _ => xt fun _ _ => xw fun _ _ => xw fun _ h3 => xi ⟨Wx.bare (k := 29) rfl rfl (fun _ h => by cases h), vk_of (k := 29) rfl rfl⟩ h3) (fun _ => xf (fun _ => xt fun S1 h1 => xb (inPar_x hL S1 h1) fun t _ h h2 => xi ⟨Wx.bare (k := 30) rfl ⟨t, rfl, h.2⟩ (one_x h.1), vk_of (k := 30) rfl rfl⟩ h2) (fun _ => ?_)))))))
  exact xl
theorem simple_x {L : Low} (hL : LowX L) : Rdx vK (simpleP L) := fun S hS => xf (fun e => leaf_x (k := 24) ⟨fun _ => hS.nm e, fun e => (by cases e), fun e => (by cases e), Or.inl rfl, fun _ => hS.nn (by omega), fun e => (by cases e)⟩ rfl rfl) (fun _ => xf (fun e => leaf_x (k := 18) ⟨fun e => (by cases e), fun _ _ => hS.nt (by omega) (by omega), fun e => (by cases e), Or.inl rfl, fun e => absurd rfl e, fun _ => hS.nu e⟩ rfl rfl) (fun _ => xf (fun e => leaf_x (k := 19) ⟨fun e => (by cases e), fun _ e => absurd rfl e, fun _ => hS.st e, Or.inl rfl, fun _ => hS.nn (by omega), fun e => (by cases e)⟩ rfl rfl) (fun _ => xf (fun _ => marked_x hL S hS) (fun e => const_x hS e))))
theorem suffixed_x {L : Low} (hL : LowX L) : Rdx vK (suffixedP L) := fun S hS => xb (simple_x hL S hS) fun t S1 h h1 => suf_x hL 3002 t S1 h h1
theorem signed_x {L : Low} (hL : LowX L) {k : Nat} (h0 : (nameK k || k == 19 || k == 18) = false) (hc : cls k = 3) (hv : (Nat.ble 18 k && Nat.ble k 45) = true) : Rdx vK (signedP L k) := fun _ _ => xt fun S1 h1 => xb (hL.n S1 h1) fun t _ h h2 => xi ⟨Wx.bare h0 (by rw [hc]; exact ⟨t, rfl, h.2⟩) (one_x h.1), vk_of rfl hv⟩ h2
theorem prefixed_x {L : Low} (hL : LowX L) : Rdx vK (prefixedP L) := fun S hS => xf (fun _ => signed_x hL rfl rfl rfl S hS) (fun _ => xf (fun _ => signed_x hL rfl rfl rfl S hS) (fun _ => suffixed_x hL S hS))
theorem deep_x {Q : Tree → Prop} {P : LS → Res Tree} (hP : Rdx Q P) : Rdx Q (deepP P) := fun S hS => xf (fun _ => xl) (fun _ => xb (hP { S with dp := S.dp + 1 } ⟨hS.nm, hS.nt, hS.st, hS.nn, hS.nu⟩) fun _ _ h h1 => xi h ⟨h1.nm, h1.nt, h1.st, h1.nn, h1.nu⟩)
theorem lower_x : ∀ d, LowX (lower d)
  | 0 => ⟨fun _ _ => xl, fun _ _ => xl, fun _ _ => xl⟩
  | d + 1 => ⟨deep_x (jo_x (prefixed_x (lower_x d)) 6), deep_x (any_x (lower_x d)), deep_x (prefixed_x (lower_x d))⟩
/-- A program that was read. -/
theorem readP_x {s : ByteArray} {v : Value} {t : Tree} {S : LS} (h : readP s v = .inr (t, S)) : Wx t ∧ t.kind = 1 := by
  unfold readP at h
  split at h
  · cases h
  · rename_i T hT
    exact (program_x (lower_x 26) T (advP_tok hT) t S h).1
end Go.Proofs.YtndgajlidckcdaaGreatDoor
