/-
  What is wrong with an image first, and where.
-/
import Derived.Test.YtpfhnmgfcmkidaaDoorCClass
namespace Go.Proofs.YtpfhnmgfcmkidaaDoor

def sizeOk (f : PF) : Bool := inB f.code.length 1 5000 && inB f.params 0 8 && inB f.slots f.params 200
def spanOk (n : Nat) (fr to : Int) : Bool := decide (0 ≤ fr ∧ fr ≤ to ∧ to ≤ n)
def handOk (n : Nat) (h : PH) : Bool := spanOk n h.fr h.to && belowB h.tg n
def varOk (slots : Int) (n : Nat) (v : PV) : Bool := belowB v.slot slots && spanOk n v.fr v.to
def namesOk (m : PM) (f : PF) : Bool := f.code.all (nameOk m f.slots f.code.length) && f.hands.all (handOk f.code.length) && f.vars.all (varOk f.slots f.code.length)

/-- What is wrong with a function (0: nothing). -/
def FnErr (m : PM) (f : PF) (e : Int) : Prop :=
  (sizeOk f = false ∧ e = 4) ∨ (sizeOk f = true ∧ namesOk m f = false ∧ e = 2) ∨ (sizeOk f = true ∧ namesOk m f = true ∧ BadWays f.code f.hands ∧ e = 3) ∨ (sizeOk f = true ∧ namesOk m f = true ∧ ¬ BadWays f.code f.hands ∧ e = 0)
theorem FnErr.one {m : PM} {f : PF} {a b : Int} (h : FnErr m f a) (k : FnErr m f b) : a = b := by
  rcases h with ⟨h1, rfl⟩ | ⟨h1, h2, rfl⟩ | ⟨h1, h2, h3, rfl⟩ | ⟨h1, h2, h3, rfl⟩ <;> rcases k with ⟨k1, rfl⟩ | ⟨k1, k2, rfl⟩ | ⟨k1, k2, k3, rfl⟩ | ⟨k1, k2, k3, rfl⟩
  all_goals first
    | rfl
    | exact absurd (h1.symm.trans k1) (by decide)
    | exact absurd (h2.symm.trans k2) (by decide)
    | exact absurd h3 k3
    | exact absurd k3 h3

def limitOk (m : PM) : Bool := inB m.funcs.length 1 250 && decide (m.consts.length ≤ 1000) && decide (m.classes.length ≤ 250)
def ClassesOk (m : PM) : Prop := ∀ (i : Nat) (c : PK), m.classes[i]? = some c → classOk m i c = true

/-- What is wrong with an image, and in which function (-1: in none). -/
def Verdict (m : PM) (e p : Int) : Prop :=
  (limitOk m = false ∧ e = 4 ∧ p = -1) ∨ (limitOk m = true ∧ ¬ ClassesOk m ∧ e = 2 ∧ p = -1) ∨
  (limitOk m = true ∧ ClassesOk m ∧ ((∃ (i : Nat) (f : PF), m.funcs[i]? = some f ∧ FnErr m f e ∧ e ≠ 0 ∧ p = i ∧ ∀ (j : Nat) (g : PF), j < i → m.funcs[j]? = some g → FnErr m g 0) ∨ (e = 0 ∧ p = -1 ∧ ∀ (j : Nat) (g : PF), m.funcs[j]? = some g → FnErr m g 0)))
theorem Verdict.one {m : PM} {e p e' p' : Int} (h : Verdict m e p) (k : Verdict m e' p') : e = e' ∧ p = p' := by
  rcases h with ⟨h1, rfl, rfl⟩ | ⟨h1, h2, rfl, rfl⟩ | ⟨h1, h2, h3⟩ <;> rcases k with ⟨k1, rfl, rfl⟩ | ⟨k1, k2, rfl, rfl⟩ | ⟨k1, k2, k3⟩
  all_goals first
    | exact ⟨rfl, rfl⟩
    | exact absurd (h1.symm.trans k1) (by decide)
    | exact absurd h2 k2
    | exact absurd k2 h2
    | skip
  rcases h3 with ⟨i, f, a1, a2, a3, rfl, a5⟩ | ⟨rfl, rfl, a5⟩ <;> rcases k3 with ⟨j, g, b1, b2, b3, rfl, b5⟩ | ⟨rfl, rfl, b5⟩
  · rcases Nat.lt_trichotomy i j with hij | hij | hij
    · exact absurd (a2.one (b5 i f hij a1)) a3
    · subst hij
      rw [a1] at b1
      cases b1
      exact ⟨a2.one b2, rfl⟩
    · exact absurd (b2.one (a5 j g hij b1)) b3
  · exact absurd (a2.one (b5 i f a1)) a3
  · exact absurd (b2.one (a5 j g b1)) b3
  · exact ⟨rfl, rfl⟩
end Go.Proofs.YtpfhnmgfcmkidaaDoor
