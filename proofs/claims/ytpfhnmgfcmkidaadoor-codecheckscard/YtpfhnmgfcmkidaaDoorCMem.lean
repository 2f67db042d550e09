/-
  Images in memory.
-/
import Derived.Test.YtpfhnmgfcmkidaaDoorRows
import Derived.Test.YtpfhnmgfcmkidaaDoorCVerdict
import Derived.WalkKit
import Derived.WalkSpells
import Derived.WalkLawsBesides
import Derived.Deep.QuietTactic
import Derived.BigQuiet
import Derived.Deep.RegionHeld3
import Derived.Deep.DeepCutAuto
import Derived.Deep.LoopGhost
namespace Go.Proofs.YtpfhnmgfcmkidaaDoor
open Go.RowKit

theorem hide {p : Prop} (h : p) : Hid p := h
theorem unhide {p : Prop} (h : Hid p) : p := h
theorem rb {a b : Bool} (h : a = b) : Ending.returned (.bool a) = .returned (.bool b) := by rw [h]

/-- So many rows of so many cells lie behind an address. -/
def RowsAt (w : World) (g : Option Addr) (n k : Nat) (R : Nat → Nat → Value) : Prop :=
  ∀ i, i < n → ∃ b o, g = some ⟨b, o, none⟩ ∧ ∀ j, j < k → w.cell? ⟨b, o + i * k + j, none⟩ = some (R i j)

theorem cell_lt {w : World} {a : Addr} {v : Value} (h : w.cell? a = some v) : a.block < w.heap.size := by
  rcases Nat.lt_or_ge a.block w.heap.size with k | k
  · exact k
  · simp [World.cell?, Array.getElem?_eq_none k] at h
theorem cellk {B : Nat} {w w' : World} (hb : Below B w w') {a : Addr} {v : Value} (h : w.cell? a = some v) (hl : a.block < B) : w'.cell? a = some v := (hb.cell hl).trans h

theorem RowsAt.keep {w w' : World} {g : Option Addr} {n k : Nat} {R : Nat → Nat → Value} (h : RowsAt w g n k R) (hb : Below w.heap.size w w') : RowsAt w' g n k R := fun i hi => by
  obtain ⟨b, o, h1, h2⟩ := h i hi
  exact ⟨b, o, h1, fun j hj => cellk hb (h2 j hj) (cell_lt (h2 j hj))⟩

def iv (n : Int) : Value := .int .i64 n
/-- Is a number one of 64 bits? -/
def I64 (n : Int) : Prop := -9223372036854775808 ≤ n ∧ n ≤ 9223372036854775807

def instrRow (l : List PI) (i j : Nat) : Value := match l[i]? with
  | some x => (match j with | 0 => .int .i64 x.op | 1 => .int .i64 x.a | _ => .int .i64 x.b)
  | none => undef
def handRow (l : List PH) (i j : Nat) : Value := match l[i]? with
  | some x => (match j with | 0 => .int .i64 x.fr | 1 => .int .i64 x.to | _ => .int .i64 x.tg)
  | none => undef
def varRow (l : List PV) (i j : Nat) : Value := match l[i]? with
  | some x => (match j with | 0 => .string x.name | 1 => .int .i64 x.slot | 2 => .int .i64 x.fr | 3 => .int .i64 x.to | _ => .bool x.boxed)
  | none => undef
def constRow (l : List PC) (i j : Nat) : Value := match l[i]? with
  | some x => (match j with | 0 => .bool x.text | 1 => .string x.s | _ => .int .i64 x.n)
  | none => undef
def strRow (l : List ByteArray) (i _j : Nat) : Value := match l[i]? with
  | some x => .string x
  | none => undef
def intRow (l : List Int) (i _j : Nat) : Value := match l[i]? with
  | some x => .int .i64 x
  | none => undef

/-- A slice whose elements are rows. -/
def SlAt (w : World) (v : Value) (n k bytes : Nat) (R : Nat → Nat → Value) : Prop := ∃ g cap, v = .slice g n cap ∧ n * bytes ≤ 140737488355328 ∧ RowsAt w g n k R
theorem SlAt.keep {w w' : World} {v : Value} {n k b : Nat} {R : Nat → Nat → Value} (h : SlAt w v n k b R) (hb : Below w.heap.size w w') : SlAt w' v n k b R := by
  obtain ⟨g, cap, h1, h2, h3⟩ := h
  exact ⟨g, cap, h1, h2, h3.keep hb⟩

def InstrsAt (w : World) (v : Value) (l : List PI) : Prop := SlAt w v l.length 3 24 (instrRow l)
def HandsAt (w : World) (v : Value) (l : List PH) : Prop := SlAt w v l.length 3 24 (handRow l)
def VarsAt (w : World) (v : Value) (l : List PV) : Prop := SlAt w v l.length 5 48 (varRow l)
def ConstsAt (w : World) (v : Value) (l : List PC) : Prop := SlAt w v l.length 3 32 (constRow l)
def StrsAt (w : World) (v : Value) (l : List ByteArray) : Prop := SlAt w v l.length 1 16 (strRow l)
def IntsAt (w : World) (v : Value) (l : List Int) : Prop := SlAt w v l.length 1 8 (intRow l)

/-- What a function's cells hold. -/
def FnIs (w : World) (C : Nat → Value) (f : PF) : Prop :=
  C 0 = .string f.name ∧ C 1 = .int .i64 f.params ∧ C 2 = .int .i64 f.slots ∧ InstrsAt w (C 3) f.code ∧ HandsAt w (C 4) f.hands ∧ VarsAt w (C 5) f.vars
def KdIs (w : World) (C : Nat → Value) (c : PK) : Prop :=
  C 0 = .string c.name ∧ C 1 = .int .i64 c.above ∧ StrsAt w (C 2) c.fields ∧ StrsAt w (C 3) c.names ∧ IntsAt w (C 4) c.meths
theorem FnIs.keep {w w' : World} {C : Nat → Value} {f : PF} (h : FnIs w C f) (hb : Below w.heap.size w w') : FnIs w' C f :=
  ⟨h.1, h.2.1, h.2.2.1, h.2.2.2.1.keep hb, h.2.2.2.2.1.keep hb, h.2.2.2.2.2.keep hb⟩
theorem KdIs.keep {w w' : World} {C : Nat → Value} {c : PK} (h : KdIs w C c) (hb : Below w.heap.size w w') : KdIs w' C c :=
  ⟨h.1, h.2.1, h.2.2.1.keep hb, h.2.2.2.1.keep hb, h.2.2.2.2.keep hb⟩

def FuncsAt (w : World) (v : Value) (l : List PF) : Prop := ∃ R, SlAt w v l.length 6 104 R ∧ ∀ i f, l[i]? = some f → FnIs w (R i) f
def KindsAt (w : World) (v : Value) (l : List PK) : Prop := ∃ R, SlAt w v l.length 5 96 R ∧ ∀ i c, l[i]? = some c → KdIs w (R i) c
theorem FuncsAt.keep {w w' : World} {v : Value} {l : List PF} (h : FuncsAt w v l) (hb : Below w.heap.size w w') : FuncsAt w' v l := by
  obtain ⟨R, h1, h2⟩ := h
  exact ⟨R, h1.keep hb, fun i f hi => (h2 i f hi).keep hb⟩
theorem KindsAt.keep {w w' : World} {v : Value} {l : List PK} (h : KindsAt w v l) (hb : Below w.heap.size w w') : KindsAt w' v l := by
  obtain ⟨R, h1, h2⟩ := h
  exact ⟨R, h1.keep hb, fun i c hi => (h2 i c hi).keep hb⟩

/-- An image's three slices. -/
structure ImgIs (w : World) (vf vc vk : Value) (m : PM) : Prop where
  funcs : FuncsAt w vf m.funcs
  consts : ConstsAt w vc m.consts
  classes : KindsAt w vk m.classes
theorem ImgIs.keep {w w' : World} {vf vc vk : Value} {m : PM} (h : ImgIs w vf vc vk m) (hb : Below w.heap.size w w') : ImgIs w' vf vc vk m :=
  ⟨h.funcs.keep hb, h.consts.keep hb, h.classes.keep hb⟩
/-- An image behind a pointer. -/
structure ImgAt (w : World) (b : Nat) (m : PM) (vf vc vk : Value) : Prop where
  c0 : w.cell? ⟨b, 0, none⟩ = some vf
  c1 : w.cell? ⟨b, 1, none⟩ = some vc
  c2 : w.cell? ⟨b, 2, none⟩ = some vk
  img : ImgIs w vf vc vk m
theorem ImgAt.keep {w w' : World} {b : Nat} {m : PM} {vf vc vk : Value} (h : ImgAt w b m vf vc vk) (hb : Below w.heap.size w w') : ImgAt w' b m vf vc vk :=
  ⟨cellk hb h.c0 (cell_lt h.c0), cellk hb h.c1 (cell_lt h.c1), cellk hb h.c2 (cell_lt h.c2), h.img.keep hb⟩

end Go.Proofs.YtpfhnmgfcmkidaaDoor
