/-
  Images in memory.
  Small questions of package code.
  What instructions take and leave.
  Is there what an instruction names? (one)
-/
import Derived.Test.YtcbgcjkcfolcoaaDoorM01
import Derived.Test.YtcbgcjkcfolcoaaDoorRows
import Derived.WalkKit
import Derived.WalkSpells
import Derived.WalkLawsBesides
import Derived.Deep.QuietTactic
import Derived.BigQuiet
import Derived.Deep.RegionHeld3
import Derived.Deep.DeepCutAuto
import Derived.Deep.LoopGhost
namespace Go.Proofs.YtcbgcjkcfolcoaaDoor
open Go.RowKit

theorem hide {p : Prop} (h : p) : Hid p := h
theorem unhide {p : Prop} (h : Hid p) : p := h
theorem rb {a b : Bool} (h : a = b) : Ending.returned (.bool a) = .returned (.bool b) := by rw [h]

/-- So many rows of so many cells lie behind an address. -/
def RowsAt (w : World) (g : Option Addr) (n k : Nat) (R : Nat → Nat → Value) : Prop :=
  ∀ i, i < n → ∃ b o, g = some ⟨b, o, none⟩ ∧ ∀ j, j < k → w.cell? ⟨b, o + i * k + j, none⟩ = some (R i j)

theorem cell_lt {w : World} {a : Addr} {v : Value} (h : w.cell? a = some v) : a.block < w.heap.size := by
  rcases Nat.lt_or_ge a.block w.heap.size with k | k
  · exact k
  · simp [World.cell?, Array.getElem?_eq_none k] at h
theorem cellk {B : Nat} {w w' : World} (hb : Below B w w') {a : Addr} {v : Value} (h : w.cell? a = some v) (hl : a.block < B) : w'.cell? a = some v := (hb.cell hl).trans h

theorem RowsAt.keep {w w' : World} {g : Option Addr} {n k : Nat} {R : Nat → Nat → Value} (h : RowsAt w g n k R) (hb : Below w.heap.size w w') : RowsAt w' g n k R := fun i hi => by
  obtain ⟨b, o, h1, h2⟩ := h i hi
  exact ⟨b, o, h1, fun j hj => cellk hb (h2 j hj) (cell_lt (h2 j hj))⟩

def iv (n : Int) : Value := .int .i64 n
/-- Is a number one of 64 bits? -/
def I64 (n : Int) : Prop := -9223372036854775808 ≤ n ∧ n ≤ 9223372036854775807

def instrRow (l : List PI) (i j : Nat) : Value := match l[i]? with
  | some x => (match j with | 0 => .int .i64 x.op | 1 => .int .i64 x.a | _ => .int .i64 x.b)
  | none => undef
def handRow (l : List PH) (i j : Nat) : Value := match l[i]? with
  | some x => (match j with | 0 => .int .i64 x.fr | 1 => .int .i64 x.to | _ => .int .i64 x.tg)
  | none => undef
def varRow (l : List PV) (i j : Nat) : Value := match l[i]? with
  | some x => (match j with | 0 => .string x.name | 1 => .int .i64 x.slot | 2 => .int .i64 x.fr | 3 => .int .i64 x.to | _ => .bool x.boxed)
  | none => undef
def constRow (l : List PC) (i j : Nat) : Value := match l[i]? with
  | some x => (match j with | 0 => .bool x.text | 1 => .string x.s | _ => .int .i64 x.n)
  | none => undef
def strRow (l : List ByteArray) (i _j : Nat) : Value := match l[i]? with
  | some x => .string x
  | none => undef
def intRow (l : List Int) (i _j : Nat) : Value := match l[i]? with
  | some x => .int .i64 x
  | none => undef

/-- A slice whose elements are rows. -/
def SlAt (w : World) (v : Value) (n k bytes : Nat) (R : Nat → Nat → Value) : Prop := ∃ g cap, v = .slice g n cap ∧ n * bytes ≤ 140737488355328 ∧ RowsAt w g n k R
theorem SlAt.keep {w w' : World} {v : Value} {n k b : Nat} {R : Nat → Nat → Value} (h : SlAt w v n k b R) (hb : Below w.heap.size w w') : SlAt w' v n k b R := by
  obtain ⟨g, cap, h1, h2, h3⟩ := h
  exact ⟨g, cap, h1, h2, h3.keep hb⟩

def InstrsAt (w : World) (v : Value) (l : List PI) : Prop := SlAt w v l.length 3 24 (instrRow l)
def HandsAt (w : World) (v : Value) (l : List PH) : Prop := SlAt w v l.length 3 24 (handRow l)
def VarsAt (w : World) (v : Value) (l : List PV) : Prop := SlAt w v l.length 5 48 (varRow l)
def ConstsAt (w : World) (v : Value) (l : List PC) : Prop := SlAt w v l.length 3 32 (constRow l)
def StrsAt (w : World) (v : Value) (l : List ByteArray) : Prop := SlAt w v l.length 1 16 (strRow l)
def IntsAt (w : World) (v : Value) (l : List Int) : Prop := SlAt w v l.length 1 8 (intRow l)

/-- What a function's cells hold. -/
def FnIs (w : World) (C : Nat → Value) (f : PF) : Prop :=
  C 0 = .string f.name ∧ C 1 = .int .i64 f.params ∧ C 2 = .int .i64 f.slots ∧ InstrsAt w (C 3) f.code ∧ HandsAt w (C 4) f.hands ∧ VarsAt w (C 5) f.vars
def KdIs (w : World) (C : Nat → Value) (c : PK) : Prop :=
  C 0 = .string c.name ∧ C 1 = .int .i64 c.above ∧ StrsAt w (C 2) c.fields ∧ StrsAt w (C 3) c.names ∧ IntsAt w (C 4) c.meths
theorem FnIs.keep {w w' : World} {C : Nat → Value} {f : PF} (h : FnIs w C f) (hb : Below w.heap.size w w') : FnIs w' C f :=
  ⟨h.1, h.2.1, h.2.2.1, h.2.2.2.1.keep hb, h.2.2.2.2.1.keep hb, h.2.2.2.2.2.keep hb⟩
theorem KdIs.keep {w w' : World} {C : Nat → Value} {c : PK} (h : KdIs w C c) (hb : Below w.heap.size w w') : KdIs w' C c :=
  ⟨h.1, h.2.1, h.2.2.1.keep hb, h.2.2.2.1.keep hb, h.2.2.2.2.keep hb⟩

def FuncsAt (w : World) (v : Value) (l : List PF) : Prop := ∃ R, SlAt w v l.length 6 104 R ∧ ∀ i f, l[i]? = some f → FnIs w (R i) f
def KindsAt (w : World) (v : Value) (l : List PK) : Prop := ∃ R, SlAt w v l.length 5 96 R ∧ ∀ i c, l[i]? = some c → KdIs w (R i) c
theorem FuncsAt.keep {w w' : World} {v : Value} {l : List PF} (h : FuncsAt w v l) (hb : Below w.heap.size w w') : FuncsAt w' v l := by
  obtain ⟨R, h1, h2⟩ := h
  exact ⟨R, h1.keep hb, fun i f hi => (h2 i f hi).keep hb⟩
theorem KindsAt.keep {w w' : World} {v : Value} {l : List PK} (h : KindsAt w v l) (hb : Below w.heap.size w w') : KindsAt w' v l := by
  obtain ⟨R, h1, h2⟩ := h
  exact ⟨R, h1.keep hb, fun i c hi => (h2 i c hi).keep hb⟩

/-- An image's three slices. -/
structure ImgIs (w : World) (vf vc vk : Value) (m : PM) : Prop where
  funcs : FuncsAt w vf m.funcs
  consts : ConstsAt w vc m.consts
  classes : KindsAt w vk m.classes
theorem ImgIs.keep {w w' : World} {vf vc vk : Value} {m : PM} (h : ImgIs w vf vc vk m) (hb : Below w.heap.size w w') : ImgIs w' vf vc vk m :=
  ⟨h.funcs.keep hb, h.consts.keep hb, h.classes.keep hb⟩
/-- An image behind a pointer. -/
structure ImgAt (w : World) (b : Nat) (m : PM) (vf vc vk : Value) : Prop where
  c0 : w.cell? ⟨b, 0, none⟩ = some vf
  c1 : w.cell? ⟨b, 1, none⟩ = some vc
  c2 : w.cell? ⟨b, 2, none⟩ = some vk
  img : ImgIs w vf vc vk m
theorem ImgAt.keep {w w' : World} {b : Nat} {m : PM} {vf vc vk : Value} (h : ImgAt w b m vf vc vk) (hb : Below w.heap.size w w') : ImgAt w' b m vf vc vk :=
  ⟨cellk hb h.c0 (cell_lt h.c0), cellk hb h.c1 (cell_lt h.c1), cellk hb h.c2 (cell_lt h.c2), h.img.keep hb⟩

end Go.Proofs.YtcbgcjkcfolcoaaDoor

namespace Go.Proofs.YtcbgcjkcfolcoaaDoor
open Go.RowKit

set_option maxHeartbeats 1000000 in
theorem below_any (n many : Int) (w : World) : Calls Tryd.prog 40 #[.int .i64 n, .int .i64 many] w fun e w' => e = .returned (.bool (belowB n many)) ∧ w = w' := by
  have hd : belowB n many = decide (0 ≤ n ∧ n < many) := rfl
  have HD := hide hd
  clear hd
  by_cases h1 : 0 ≤ n
  · go_enter Tryd.func40, Tryd.ntmps40
    go_wp2_with fail
    go_ret
    exact ⟨rb (by rw [unhide HD]; simp [h1]), rfl⟩
  · go_enter Tryd.func40, Tryd.ntmps40
    go_wp2_with fail
    go_ret
    exact ⟨rb (by rw [unhide HD]; exact (decide_eq_false (by omega)).symm), rfl⟩

set_option maxHeartbeats 1000000 in
theorem few_any (n : Int) (w : World) : Calls Tryd.prog 49 #[.int .i64 n] w fun e w' => e = .returned (.bool (fewB n)) ∧ w = w' := by
  have hd : fewB n = decide (0 ≤ n ∧ n ≤ 50) := rfl
  have HD := hide hd
  clear hd
  by_cases h1 : 0 ≤ n
  · go_enter Tryd.func49, Tryd.ntmps49
    go_wp2_with fail
    go_ret
    exact ⟨rb (by rw [unhide HD]; simp [h1]), rfl⟩
  · go_enter Tryd.func49, Tryd.ntmps49
    go_wp2_with fail
    go_ret
    exact ⟨rb (by rw [unhide HD]; exact (decide_eq_false (by omega)).symm), rfl⟩

set_option maxHeartbeats 1000000 in
theorem callable_any {w : World} {b : Nat} {m : PM} {vf vc vk : Value} (h : ImgAt w b m vf vc vk) (n : Int) :
    Calls Tryd.prog 33 #[.pointer (some ⟨b, 0, none⟩), .int .i64 n] w fun e w' => e = .returned (.bool (callB m n)) ∧ w = w' := by
  have c0 := h.c0
  obtain ⟨R, ⟨g, cap, rfl, _, _⟩, _⟩ := h.img.funcs
  have HD : Hid (callB m n = ((n != 0) && belowB n m.funcs.length)) := rfl
  clear h
  generalize m.funcs.length = N at *
  by_cases h1 : n = 0
  · have b1 : (n != 0) = false := by simp [h1]
    clear h1
    go_enter Tryd.func33, Tryd.ntmps33
    go_wp2_with fail
    go_ret
    exact ⟨rb (by rw [unhide HD, b1]; rfl), rfl⟩
  · have b1 : (n != 0) = true := by simp [h1]
    clear h1
    go_enter Tryd.func33, Tryd.ntmps33
    go_wp2_with (go_at_call 40; refine (below_any _ _ _).mono ?_; rintro e w' ⟨rfl, rfl⟩)
    go_ret
    exact ⟨rb (by rw [unhide HD, b1]; rfl), rfl⟩

set_option maxHeartbeats 1000000 in
theorem text_any {w : World} {b : Nat} {m : PM} {vf vc vk : Value} (h : ImgAt w b m vf vc vk) (n : Int) :
    Calls Tryd.prog 50 #[.pointer (some ⟨b, 0, none⟩), .int .i64 n] w fun e w' => e = .returned (.bool (isText m n)) ∧ w = w' := by
  have c1 := h.c1
  obtain ⟨g, cap, rfl, hN, hr⟩ := h.img.consts
  have HD : Hid (isText m n = (belowB n m.consts.length && (constAt m n).text)) := rfl
  clear h
  cases hb : belowB n m.consts.length with
  | false =>
    go_enter Tryd.func50, Tryd.ntmps50
    go_wp2_with (go_at_call 40; refine (below_any _ _ _).mono ?_; rintro e w' ⟨rfl, rfl⟩)
    go_ret
    exact ⟨rb (by rw [unhide HD, hb]; rfl), rfl⟩
  | true =>
    obtain ⟨h1, h2⟩ := belowB_true hb
    obtain ⟨k, rfl⟩ := Int.eq_ofNat_of_zero_le h1
    obtain ⟨gb, go, rfl, hc⟩ := hr k (by omega)
    have hx : m.consts[k]? = some (m.consts[k]'(by omega)) := List.getElem?_eq_getElem _
    have hc0 : w.cell? ⟨gb, go + k * 3, none⟩ = some (.bool (m.consts[k]'(by omega)).text) := by
      have := hc 0 (by omega)
      rw [constRow, hx] at this
      exact this
    have HC : Hid ((constAt m k).text = (m.consts[k]'(by omega)).text) := by
      show (constAt m k).text = _
      simp [constAt, List.getD, hx]
    clear hc hr hx
    generalize (m.consts[k]'(by omega)).text = t at *
    go_enter Tryd.func50, Tryd.ntmps50
    go_wp2_with (go_at_call 40; refine (below_any _ _ _).mono ?_; rintro e w' ⟨rfl, rfl⟩)
    go_ret
    exact ⟨rb (by rw [unhide HD, hb, unhide HC]; rfl), rfl⟩

/-- A function's cells behind a pointer. -/
structure FnAt (w : World) (b o : Nat) (C : Nat → Value) (f : PF) : Prop where
  c0 : w.cell? ⟨b, o, none⟩ = some (.string f.name)
  c1 : w.cell? ⟨b, o + 1, none⟩ = some (.int .i64 f.params)
  c2 : w.cell? ⟨b, o + 2, none⟩ = some (.int .i64 f.slots)
  c3 : w.cell? ⟨b, o + 3, none⟩ = some (C 3)
  c4 : w.cell? ⟨b, o + 4, none⟩ = some (C 4)
  c5 : w.cell? ⟨b, o + 5, none⟩ = some (C 5)
  fn : FnIs w C f
theorem FnAt.keep {w w' : World} {b o : Nat} {C : Nat → Value} {f : PF} (h : FnAt w b o C f) (hb : Below w.heap.size w w') : FnAt w' b o C f :=
  ⟨cellk hb h.c0 (cell_lt h.c0), cellk hb h.c1 (cell_lt h.c1), cellk hb h.c2 (cell_lt h.c2), cellk hb h.c3 (cell_lt h.c3), cellk hb h.c4 (cell_lt h.c4), cellk hb h.c5 (cell_lt h.c5), h.fn.keep hb⟩
theorem FnAt.of_rows {w : World} {g : Option Addr} {n : Nat} {R : Nat → Nat → Value} (h : RowsAt w g n 6 R) {i : Nat} (hi : i < n) {f : PF} (hf : FnIs w (R i) f) : ∃ b o, g = some ⟨b, o, none⟩ ∧ FnAt w b (o + i * 6) (R i) f := by
  obtain ⟨b, o, h1, h2⟩ := h i hi
  refine ⟨b, o, h1, ⟨?_, ?_, ?_, h2 3 (by omega), h2 4 (by omega), h2 5 (by omega), hf⟩⟩
  · exact (h2 0 (by omega)).trans (by rw [hf.1])
  · exact (h2 1 (by omega)).trans (by rw [hf.2.1])
  · exact (h2 2 (by omega)).trans (by rw [hf.2.2.1])

set_option maxHeartbeats 1000000 in
theorem span_any {w : World} {b o : Nat} {C : Nat → Value} {f : PF} (h : FnAt w b o C f) (fr hi : Int) :
    Calls Tryd.prog 42 #[.pointer (some ⟨b, o, none⟩), .int .i64 fr, .int .i64 hi] w fun e w' => e = .returned (.bool (spanOk f.code.length fr hi)) ∧ w = w' := by
  have c3 := h.c3
  obtain ⟨g, cap, hC, _, _⟩ := h.fn.2.2.2.1
  rw [hC] at c3
  have HD : Hid (spanOk f.code.length fr hi = decide (0 ≤ fr ∧ fr ≤ hi ∧ hi ≤ f.code.length)) := rfl
  clear h hC
  generalize f.code.length = N at *
  by_cases h1 : 0 ≤ fr
  · by_cases h2 : fr ≤ hi
    · go_enter Tryd.func42, Tryd.ntmps42
      go_wp2_with fail
      go_ret
      exact ⟨rb (by rw [unhide HD]; simp [h1, h2]), rfl⟩
    · go_enter Tryd.func42, Tryd.ntmps42
      go_wp2_with fail
      go_ret
      exact ⟨rb (by rw [unhide HD]; exact (decide_eq_false (by omega)).symm), rfl⟩
  · go_enter Tryd.func42, Tryd.ntmps42
    go_wp2_with fail
    go_ret
    exact ⟨rb (by rw [unhide HD]; exact (decide_eq_false (by omega)).symm), rfl⟩

set_option maxHeartbeats 4000000 in
theorem size_any {w : World} {b o : Nat} {C : Nat → Value} {f : PF} (h : FnAt w b o C f) :
    Calls Tryd.prog 35 #[.pointer (some ⟨b, o, none⟩)] w fun e w' => e = .returned (.bool (sizeOk f)) ∧ ∃ k, w' = w.drewN k := by
  have c3 := h.c3
  have c1 := h.c1
  have c2 := h.c2
  obtain ⟨g, cap, hC, _, _⟩ := h.fn.2.2.2.1
  rw [hC] at c3
  have HD : Hid (sizeOk f = (decide (1 ≤ (f.code.length : Int) ∧ (f.code.length : Int) ≤ 5000) && decide (0 ≤ f.params ∧ f.params ≤ 8) && decide (f.params ≤ f.slots ∧ f.slots ≤ 200))) := rfl
  clear h hC
  generalize f.code.length = N at *
  generalize f.params = p at *
  generalize f.slots = s at *
  by_cases h1 : (1 : Int) ≤ N
  · have d1 : decide ((1 : Int) ≤ N) = true := by simpa using h1
    by_cases h2 : (N : Int) ≤ 5000
    · have d2 : decide ((N : Int) ≤ 5000) = true := by simpa using h2
      by_cases h3 : 0 ≤ p
      · have d3 : decide (0 ≤ p) = true := by simpa using h3
        by_cases h4 : p ≤ 8
        · have d4 : decide (p ≤ 8) = true := by simpa using h4
          by_cases h5 : p ≤ s
          · have d5 : decide (p ≤ s) = true := by simpa using h5
            go_enter Tryd.func35, Tryd.ntmps35
            go_wp2_with fail
            go_quiet (fail)
            go_wp2_with fail
            go_ret
            exact ⟨rb (by rw [unhide HD]; simp [h1, h2, h3, h4, h5]), _, rfl⟩
          · have d5 : decide (p ≤ s) = false := by simpa using h5
            go_enter Tryd.func35, Tryd.ntmps35
            go_wp2_with fail
            go_quiet (fail)
            go_wp2_with fail
            go_ret
            exact ⟨rb (by rw [unhide HD]; simp [h1, h2, h3, h4]; omega), _, rfl⟩
        · have d4 : decide (p ≤ 8) = false := by simpa using h4
          go_enter Tryd.func35, Tryd.ntmps35
          go_wp2_with fail
          go_quiet (fail)
          go_wp2_with fail
          go_ret
          exact ⟨rb (by rw [unhide HD]; simp; omega), _, rfl⟩
      · have d3 : decide (0 ≤ p) = false := by simpa using h3
        go_enter Tryd.func35, Tryd.ntmps35
        go_wp2_with fail
        go_quiet (fail)
        go_wp2_with fail
        go_ret
        exact ⟨rb (by rw [unhide HD]; simp; omega), _, rfl⟩
    · have d2 : decide ((N : Int) ≤ 5000) = false := by simpa using h2
      go_enter Tryd.func35, Tryd.ntmps35
      go_wp2_with fail
      go_quiet (fail)
      go_wp2_with fail
      go_ret
      exact ⟨rb (by rw [unhide HD]; simp; omega), _, rfl⟩
  · have d1 : decide ((1 : Int) ≤ N) = false := by simpa using h1
    go_enter Tryd.func35, Tryd.ntmps35
    go_wp2_with fail
    go_quiet (fail)
    go_wp2_with fail
    go_ret
    exact ⟨rb (by rw [unhide HD]; simp; omega), _, rfl⟩
end Go.Proofs.YtcbgcjkcfolcoaaDoor

namespace Go.Proofs.YtcbgcjkcfolcoaaDoor
open Go.RowKit

def StackPost (i : PI) (w : World) (e : Ending) (w' : World) : Prop := e = .returned (.tuple #[.int .i64 (takes i), .int .i64 (leaves i)]) ∧ Below w.heap.size w w'
theorem StackPost.mk {i : PI} {w w' : World} {a b : Int} (ha : a = takes i) (hb : b = leaves i) (h : Below w.heap.size w w') : StackPost i w (.returned (.tuple #[.int .i64 a, .int .i64 b])) w' := by
  rw [ha, hb]; exact ⟨rfl, h⟩
theorem fewB_true {n : Int} (h : fewB n = true) : 0 ≤ n ∧ n ≤ 50 := by simpa [fewB, inB] using h
theorem nameOk_34 {m : PM} {s : Int} {n : Nat} {a b : Int} (h : nameOk m s n ⟨34, a, b⟩ = true) : 0 ≤ b ∧ b ≤ 50 := by
  have h' : (isText m a && fewB b) = true := h
  rw [Bool.and_eq_true] at h'
  exact fewB_true h'.2
theorem nameOk_37 {m : PM} {s : Int} {n : Nat} {a b : Int} (h : nameOk m s n ⟨37, a, b⟩ = true) : 0 ≤ b ∧ b ≤ 50 := fewB_true h
theorem nameOk_35 {m : PM} {s : Int} {n : Nat} {a b : Int} (h : nameOk m s n ⟨35, a, b⟩ = true) : 0 ≤ b := by
  have h' : (isText m a && decide (0 ≤ b) && belowB (b.tdiv 64) m.classes.length && fewB (b.tmod 64)) = true := h
  simp only [Bool.and_eq_true] at h'
  simpa using h'.1.1.2
theorem tmod64 {b : Int} (h : 0 ≤ b) : 0 ≤ b.tmod 64 ∧ b.tmod 64 < 64 := ⟨Int.tmod_nonneg 64 h, Int.tmod_lt_of_pos b (by decide)⟩

set_option maxHeartbeats 1000000 in
theorem st_1 (a b : Int) (w : World) : Calls Tryd.prog 51 #[.agg #[.int .i64 1, .int .i64 a, .int .i64 b]] w fun e w' => StackPost ⟨1, a, b⟩ w e w' := by
  go_enter Tryd.func51, Tryd.ntmps51
  go_wp2_with fail
  go_ret2
  exact StackPost.mk rfl rfl ((Below.refl _ _).alloc (Nat.le_refl _) _)
set_option maxHeartbeats 1000000 in
theorem st_2 (a b : Int) (w : World) : Calls Tryd.prog 51 #[.agg #[.int .i64 2, .int .i64 a, .int .i64 b]] w fun e w' => StackPost ⟨2, a, b⟩ w e w' := by
  go_enter Tryd.func51, Tryd.ntmps51
  go_wp2_with fail
  go_ret2
  exact StackPost.mk rfl rfl ((Below.refl _ _).alloc (Nat.le_refl _) _)
set_option maxHeartbeats 1000000 in
theorem st_3 (a b : Int) (w : World) : Calls Tryd.prog 51 #[.agg #[.int .i64 3, .int .i64 a, .int .i64 b]] w fun e w' => StackPost ⟨3, a, b⟩ w e w' := by
  go_enter Tryd.func51, Tryd.ntmps51
  go_wp2_with fail
  go_ret2
  exact StackPost.mk rfl rfl ((Below.refl _ _).alloc (Nat.le_refl _) _)
set_option maxHeartbeats 1000000 in
theorem st_4 (a b : Int) (w : World) : Calls Tryd.prog 51 #[.agg #[.int .i64 4, .int .i64 a, .int .i64 b]] w fun e w' => StackPost ⟨4, a, b⟩ w e w' := by
  go_enter Tryd.func51, Tryd.ntmps51
  go_wp2_with fail
  go_ret2
  exact StackPost.mk rfl rfl ((Below.refl _ _).alloc (Nat.le_refl _) _)
set_option maxHeartbeats 1000000 in
theorem st_5 (a b : Int) (w : World) : Calls Tryd.prog 51 #[.agg #[.int .i64 5, .int .i64 a, .int .i64 b]] w fun e w' => StackPost ⟨5, a, b⟩ w e w' := by
  go_enter Tryd.func51, Tryd.ntmps51
  go_wp2_with fail
  go_ret2
  exact StackPost.mk rfl rfl ((Below.refl _ _).alloc (Nat.le_refl _) _)
set_option maxHeartbeats 1000000 in
theorem st_6 (a b : Int) (w : World) : Calls Tryd.prog 51 #[.agg #[.int .i64 6, .int .i64 a, .int .i64 b]] w fun e w' => StackPost ⟨6, a, b⟩ w e w' := by
  go_enter Tryd.func51, Tryd.ntmps51
  go_wp2_with fail
  go_ret2
  exact StackPost.mk rfl rfl ((Below.refl _ _).alloc (Nat.le_refl _) _)
set_option maxHeartbeats 1000000 in
theorem st_7 (a b : Int) (w : World) : Calls Tryd.prog 51 #[.agg #[.int .i64 7, .int .i64 a, .int .i64 b]] w fun e w' => StackPost ⟨7, a, b⟩ w e w' := by
  go_enter Tryd.func51, Tryd.ntmps51
  go_wp2_with fail
  go_ret2
  exact StackPost.mk rfl rfl ((Below.refl _ _).alloc (Nat.le_refl _) _)
set_option maxHeartbeats 1000000 in
theorem st_8 (a b : Int) (w : World) : Calls Tryd.prog 51 #[.agg #[.int .i64 8, .int .i64 a, .int .i64 b]] w fun e w' => StackPost ⟨8, a, b⟩ w e w' := by
  go_enter Tryd.func51, Tryd.ntmps51
  go_wp2_with fail
  go_ret2
  exact StackPost.mk rfl rfl ((Below.refl _ _).alloc (Nat.le_refl _) _)
set_option maxHeartbeats 1000000 in
theorem st_9 (a b : Int) (w : World) : Calls Tryd.prog 51 #[.agg #[.int .i64 9, .int .i64 a, .int .i64 b]] w fun e w' => StackPost ⟨9, a, b⟩ w e w' := by
  go_enter Tryd.func51, Tryd.ntmps51
  go_wp2_with fail
  go_ret2
  exact StackPost.mk rfl rfl ((Below.refl _ _).alloc (Nat.le_refl _) _)
set_option maxHeartbeats 1000000 in
theorem st_10 (a b : Int) (w : World) : Calls Tryd.prog 51 #[.agg #[.int .i64 10, .int .i64 a, .int .i64 b]] w fun e w' => StackPost ⟨10, a, b⟩ w e w' := by
  go_enter Tryd.func51, Tryd.ntmps51
  go_wp2_with fail
  go_ret2
  exact StackPost.mk rfl rfl ((Below.refl _ _).alloc (Nat.le_refl _) _)
set_option maxHeartbeats 1000000 in
theorem st_11 (a b : Int) (w : World) : Calls Tryd.prog 51 #[.agg #[.int .i64 11, .int .i64 a, .int .i64 b]] w fun e w' => StackPost ⟨11, a, b⟩ w e w' := by
  go_enter Tryd.func51, Tryd.ntmps51
  go_wp2_with fail
  go_ret2
  exact StackPost.mk rfl rfl ((Below.refl _ _).alloc (Nat.le_refl _) _)
set_option maxHeartbeats 1000000 in
theorem st_12 (a b : Int) (w : World) : Calls Tryd.prog 51 #[.agg #[.int .i64 12, .int .i64 a, .int .i64 b]] w fun e w' => StackPost ⟨12, a, b⟩ w e w' := by
  go_enter Tryd.func51, Tryd.ntmps51
  go_wp2_with fail
  go_ret2
  exact StackPost.mk rfl rfl ((Below.refl _ _).alloc (Nat.le_refl _) _)
set_option maxHeartbeats 1000000 in
theorem st_13 (a b : Int) (w : World) : Calls Tryd.prog 51 #[.agg #[.int .i64 13, .int .i64 a, .int .i64 b]] w fun e w' => StackPost ⟨13, a, b⟩ w e w' := by
  go_enter Tryd.func51, Tryd.ntmps51
  go_wp2_with fail
  go_ret2
  exact StackPost.mk rfl rfl ((Below.refl _ _).alloc (Nat.le_refl _) _)
set_option maxHeartbeats 1000000 in
theorem st_14 (a b : Int) (w : World) : Calls Tryd.prog 51 #[.agg #[.int .i64 14, .int .i64 a, .int .i64 b]] w fun e w' => StackPost ⟨14, a, b⟩ w e w' := by
  go_enter Tryd.func51, Tryd.ntmps51
  go_wp2_with fail
  go_ret2
  exact StackPost.mk rfl rfl ((Below.refl _ _).alloc (Nat.le_refl _) _)
set_option maxHeartbeats 1000000 in
theorem st_15 (a b : Int) (w : World) : Calls Tryd.prog 51 #[.agg #[.int .i64 15, .int .i64 a, .int .i64 b]] w fun e w' => StackPost ⟨15, a, b⟩ w e w' := by
  go_enter Tryd.func51, Tryd.ntmps51
  go_wp2_with fail
  go_ret2
  exact StackPost.mk rfl rfl ((Below.refl _ _).alloc (Nat.le_refl _) _)
set_option maxHeartbeats 1000000 in
theorem st_16 (a b : Int) (w : World) : Calls Tryd.prog 51 #[.agg #[.int .i64 16, .int .i64 a, .int .i64 b]] w fun e w' => StackPost ⟨16, a, b⟩ w e w' := by
  go_enter Tryd.func51, Tryd.ntmps51
  go_wp2_with fail
  go_ret2
  exact StackPost.mk rfl rfl ((Below.refl _ _).alloc (Nat.le_refl _) _)
set_option maxHeartbeats 1000000 in
theorem st_17 (a b : Int) (w : World) : Calls Tryd.prog 51 #[.agg #[.int .i64 17, .int .i64 a, .int .i64 b]] w fun e w' => StackPost ⟨17, a, b⟩ w e w' := by
  go_enter Tryd.func51, Tryd.ntmps51
  go_wp2_with fail
  go_ret2
  exact StackPost.mk rfl rfl ((Below.refl _ _).alloc (Nat.le_refl _) _)
set_option maxHeartbeats 1000000 in
theorem st_18 (a b : Int) (w : World) : Calls Tryd.prog 51 #[.agg #[.int .i64 18, .int .i64 a, .int .i64 b]] w fun e w' => StackPost ⟨18, a, b⟩ w e w' := by
  go_enter Tryd.func51, Tryd.ntmps51
  go_wp2_with fail
  go_ret2
  exact StackPost.mk rfl rfl ((Below.refl _ _).alloc (Nat.le_refl _) _)
set_option maxHeartbeats 1000000 in
theorem st_19 (a b : Int) (w : World) : Calls Tryd.prog 51 #[.agg #[.int .i64 19, .int .i64 a, .int .i64 b]] w fun e w' => StackPost ⟨19, a, b⟩ w e w' := by
  go_enter Tryd.func51, Tryd.ntmps51
  go_wp2_with fail
  go_ret2
  exact StackPost.mk rfl rfl ((Below.refl _ _).alloc (Nat.le_refl _) _)
set_option maxHeartbeats 1000000 in
theorem st_20 (a b : Int) (w : World) : Calls Tryd.prog 51 #[.agg #[.int .i64 20, .int .i64 a, .int .i64 b]] w fun e w' => StackPost ⟨20, a, b⟩ w e w' := by
  go_enter Tryd.func51, Tryd.ntmps51
  go_wp2_with fail
  go_ret2
  exact StackPost.mk rfl rfl ((Below.refl _ _).alloc (Nat.le_refl _) _)
set_option maxHeartbeats 1000000 in
theorem st_21 (a b : Int) (w : World) : Calls Tryd.prog 51 #[.agg #[.int .i64 21, .int .i64 a, .int .i64 b]] w fun e w' => StackPost ⟨21, a, b⟩ w e w' := by
  go_enter Tryd.func51, Tryd.ntmps51
  go_wp2_with fail
  go_ret2
  exact StackPost.mk rfl rfl ((Below.refl _ _).alloc (Nat.le_refl _) _)
set_option maxHeartbeats 1000000 in
theorem st_22 (a b : Int) (w : World) : Calls Tryd.prog 51 #[.agg #[.int .i64 22, .int .i64 a, .int .i64 b]] w fun e w' => StackPost ⟨22, a, b⟩ w e w' := by
  go_enter Tryd.func51, Tryd.ntmps51
  go_wp2_with fail
  go_ret2
  exact StackPost.mk rfl rfl ((Below.refl _ _).alloc (Nat.le_refl _) _)
set_option maxHeartbeats 1000000 in
theorem st_23 (a b : Int) (w : World) : Calls Tryd.prog 51 #[.agg #[.int .i64 23, .int .i64 a, .int .i64 b]] w fun e w' => StackPost ⟨23, a, b⟩ w e w' := by
  go_enter Tryd.func51, Tryd.ntmps51
  go_wp2_with fail
  go_ret2
  exact StackPost.mk rfl rfl ((Below.refl _ _).alloc (Nat.le_refl _) _)
set_option maxHeartbeats 1000000 in
theorem st_24 (a b : Int) (w : World) : Calls Tryd.prog 51 #[.agg #[.int .i64 24, .int .i64 a, .int .i64 b]] w fun e w' => StackPost ⟨24, a, b⟩ w e w' := by
  go_enter Tryd.func51, Tryd.ntmps51
  go_wp2_with fail
  go_ret2
  exact StackPost.mk rfl rfl ((Below.refl _ _).alloc (Nat.le_refl _) _)
set_option maxHeartbeats 1000000 in
theorem st_25 (a b : Int) (w : World) : Calls Tryd.prog 51 #[.agg #[.int .i64 25, .int .i64 a, .int .i64 b]] w fun e w' => StackPost ⟨25, a, b⟩ w e w' := by
  go_enter Tryd.func51, Tryd.ntmps51
  go_wp2_with fail
  go_ret2
  exact StackPost.mk rfl rfl ((Below.refl _ _).alloc (Nat.le_refl _) _)
set_option maxHeartbeats 1000000 in
theorem st_26 (a b : Int) (w : World) : Calls Tryd.prog 51 #[.agg #[.int .i64 26, .int .i64 a, .int .i64 b]] w fun e w' => StackPost ⟨26, a, b⟩ w e w' := by
  go_enter Tryd.func51, Tryd.ntmps51
  go_wp2_with fail
  go_ret2
  exact StackPost.mk rfl rfl ((Below.refl _ _).alloc (Nat.le_refl _) _)
set_option maxHeartbeats 1000000 in
theorem st_27 (a b : Int) (w : World) : Calls Tryd.prog 51 #[.agg #[.int .i64 27, .int .i64 a, .int .i64 b]] w fun e w' => StackPost ⟨27, a, b⟩ w e w' := by
  go_enter Tryd.func51, Tryd.ntmps51
  go_wp2_with fail
  go_ret2
  exact StackPost.mk rfl rfl ((Below.refl _ _).alloc (Nat.le_refl _) _)
set_option maxHeartbeats 1000000 in
theorem st_28 (a b : Int) (w : World) : Calls Tryd.prog 51 #[.agg #[.int .i64 28, .int .i64 a, .int .i64 b]] w fun e w' => StackPost ⟨28, a, b⟩ w e w' := by
  go_enter Tryd.func51, Tryd.ntmps51
  go_wp2_with fail
  go_ret2
  exact StackPost.mk rfl rfl ((Below.refl _ _).alloc (Nat.le_refl _) _)
set_option maxHeartbeats 1000000 in
theorem st_29 (a b : Int) (w : World) : Calls Tryd.prog 51 #[.agg #[.int .i64 29, .int .i64 a, .int .i64 b]] w fun e w' => StackPost ⟨29, a, b⟩ w e w' := by
  go_enter Tryd.func51, Tryd.ntmps51
  go_wp2_with fail
  go_ret2
  exact StackPost.mk rfl rfl ((Below.refl _ _).alloc (Nat.le_refl _) _)
set_option maxHeartbeats 1000000 in
theorem st_30 (a b : Int) (w : World) : Calls Tryd.prog 51 #[.agg #[.int .i64 30, .int .i64 a, .int .i64 b]] w fun e w' => StackPost ⟨30, a, b⟩ w e w' := by
  go_enter Tryd.func51, Tryd.ntmps51
  go_wp2_with fail
  go_ret2
  exact StackPost.mk rfl rfl ((Below.refl _ _).alloc (Nat.le_refl _) _)
set_option maxHeartbeats 1000000 in
theorem st_31 (a b : Int) (w : World) : Calls Tryd.prog 51 #[.agg #[.int .i64 31, .int .i64 a, .int .i64 b]] w fun e w' => StackPost ⟨31, a, b⟩ w e w' := by
  go_enter Tryd.func51, Tryd.ntmps51
  go_wp2_with fail
  go_ret2
  exact StackPost.mk rfl rfl ((Below.refl _ _).alloc (Nat.le_refl _) _)
set_option maxHeartbeats 1000000 in
theorem st_32 (a b : Int) (w : World) : Calls Tryd.prog 51 #[.agg #[.int .i64 32, .int .i64 a, .int .i64 b]] w fun e w' => StackPost ⟨32, a, b⟩ w e w' := by
  go_enter Tryd.func51, Tryd.ntmps51
  go_wp2_with fail
  go_ret2
  exact StackPost.mk rfl rfl ((Below.refl _ _).alloc (Nat.le_refl _) _)
set_option maxHeartbeats 1000000 in
theorem st_33 (a b : Int) (w : World) : Calls Tryd.prog 51 #[.agg #[.int .i64 33, .int .i64 a, .int .i64 b]] w fun e w' => StackPost ⟨33, a, b⟩ w e w' := by
  go_enter Tryd.func51, Tryd.ntmps51
  go_wp2_with fail
  go_ret2
  exact StackPost.mk rfl rfl ((Below.refl _ _).alloc (Nat.le_refl _) _)
set_option maxHeartbeats 1000000 in
theorem st_34 (a b : Int) (w : World) (h1 : 0 ≤ b) (h2 : b ≤ 50) : Calls Tryd.prog 51 #[.agg #[.int .i64 34, .int .i64 a, .int .i64 b]] w fun e w' => StackPost ⟨34, a, b⟩ w e w' := by
  go_enter Tryd.func51, Tryd.ntmps51
  go_wp2_with fail
  go_ret2
  exact StackPost.mk rfl rfl ((Below.refl _ _).alloc (Nat.le_refl _) _)
set_option maxHeartbeats 1000000 in
theorem st_35 (a b : Int) (w : World) (h1 : 0 ≤ b) : Calls Tryd.prog 51 #[.agg #[.int .i64 35, .int .i64 a, .int .i64 b]] w fun e w' => StackPost ⟨35, a, b⟩ w e w' := by
  obtain ⟨h3, h4⟩ := tmod64 h1
  go_enter Tryd.func51, Tryd.ntmps51
  go_wp2_with fail
  go_ret2
  exact StackPost.mk (show b % 64 + 1 = b.tmod 64 + 1 by rw [Int.tmod_eq_emod_of_nonneg h1]) rfl ((Below.refl _ _).alloc (Nat.le_refl _) _)
set_option maxHeartbeats 1000000 in
theorem st_36 (a b : Int) (w : World) : Calls Tryd.prog 51 #[.agg #[.int .i64 36, .int .i64 a, .int .i64 b]] w fun e w' => StackPost ⟨36, a, b⟩ w e w' := by
  go_enter Tryd.func51, Tryd.ntmps51
  go_wp2_with fail
  go_ret2
  exact StackPost.mk rfl rfl ((Below.refl _ _).alloc (Nat.le_refl _) _)
set_option maxHeartbeats 1000000 in
theorem st_37 (a b : Int) (w : World) (h1 : 0 ≤ b) (h2 : b ≤ 50) : Calls Tryd.prog 51 #[.agg #[.int .i64 37, .int .i64 a, .int .i64 b]] w fun e w' => StackPost ⟨37, a, b⟩ w e w' := by
  go_enter Tryd.func51, Tryd.ntmps51
  go_wp2_with fail
  go_ret2
  exact StackPost.mk rfl rfl ((Below.refl _ _).alloc (Nat.le_refl _) _)
set_option maxHeartbeats 1000000 in
theorem st_38 (a b : Int) (w : World) : Calls Tryd.prog 51 #[.agg #[.int .i64 38, .int .i64 a, .int .i64 b]] w fun e w' => StackPost ⟨38, a, b⟩ w e w' := by
  go_enter Tryd.func51, Tryd.ntmps51
  go_wp2_with fail
  go_ret2
  exact StackPost.mk rfl rfl ((Below.refl _ _).alloc (Nat.le_refl _) _)
set_option maxHeartbeats 1000000 in
theorem st_39 (a b : Int) (w : World) : Calls Tryd.prog 51 #[.agg #[.int .i64 39, .int .i64 a, .int .i64 b]] w fun e w' => StackPost ⟨39, a, b⟩ w e w' := by
  go_enter Tryd.func51, Tryd.ntmps51
  go_wp2_with fail
  go_ret2
  exact StackPost.mk rfl rfl ((Below.refl _ _).alloc (Nat.le_refl _) _)
set_option maxHeartbeats 1000000 in
theorem st_40 (a b : Int) (w : World) : Calls Tryd.prog 51 #[.agg #[.int .i64 40, .int .i64 a, .int .i64 b]] w fun e w' => StackPost ⟨40, a, b⟩ w e w' := by
  go_enter Tryd.func51, Tryd.ntmps51
  go_wp2_with fail
  go_ret2
  exact StackPost.mk rfl rfl ((Below.refl _ _).alloc (Nat.le_refl _) _)
set_option maxHeartbeats 1000000 in
theorem st_41 (a b : Int) (w : World) : Calls Tryd.prog 51 #[.agg #[.int .i64 41, .int .i64 a, .int .i64 b]] w fun e w' => StackPost ⟨41, a, b⟩ w e w' := by
  go_enter Tryd.func51, Tryd.ntmps51
  go_wp2_with fail
  go_ret2
  exact StackPost.mk rfl rfl ((Below.refl _ _).alloc (Nat.le_refl _) _)
set_option maxHeartbeats 1000000 in
theorem st_42 (a b : Int) (w : World) : Calls Tryd.prog 51 #[.agg #[.int .i64 42, .int .i64 a, .int .i64 b]] w fun e w' => StackPost ⟨42, a, b⟩ w e w' := by
  go_enter Tryd.func51, Tryd.ntmps51
  go_wp2_with fail
  go_ret2
  exact StackPost.mk rfl rfl ((Below.refl _ _).alloc (Nat.le_refl _) _)
set_option maxHeartbeats 1000000 in
theorem st_43 (a b : Int) (w : World) : Calls Tryd.prog 51 #[.agg #[.int .i64 43, .int .i64 a, .int .i64 b]] w fun e w' => StackPost ⟨43, a, b⟩ w e w' := by
  go_enter Tryd.func51, Tryd.ntmps51
  go_wp2_with fail
  go_ret2
  exact StackPost.mk rfl rfl ((Below.refl _ _).alloc (Nat.le_refl _) _)
set_option maxHeartbeats 1000000 in
theorem st_44 (a b : Int) (w : World) : Calls Tryd.prog 51 #[.agg #[.int .i64 44, .int .i64 a, .int .i64 b]] w fun e w' => StackPost ⟨44, a, b⟩ w e w' := by
  go_enter Tryd.func51, Tryd.ntmps51
  go_wp2_with fail
  go_ret2
  exact StackPost.mk rfl rfl ((Below.refl _ _).alloc (Nat.le_refl _) _)
set_option maxHeartbeats 1000000 in
theorem st_45 (a b : Int) (w : World) : Calls Tryd.prog 51 #[.agg #[.int .i64 45, .int .i64 a, .int .i64 b]] w fun e w' => StackPost ⟨45, a, b⟩ w e w' := by
  go_enter Tryd.func51, Tryd.ntmps51
  go_wp2_with fail
  go_ret2
  exact StackPost.mk rfl rfl ((Below.refl _ _).alloc (Nat.le_refl _) _)

theorem stack_any {m : PM} {s : Int} {n : Nat} (i : PI) (h : nameOk m s n i = true) (w : World) : Calls Tryd.prog 51 #[.agg #[.int .i64 i.op, .int .i64 i.a, .int .i64 i.b]] w fun e w' => StackPost i w e w' := by
  obtain ⟨h1, h2⟩ := nameOk_op h
  obtain ⟨op, a, b⟩ := i
  rcases op_cases op h1 h2 with rfl|rfl|rfl|rfl|rfl|rfl|rfl|rfl|rfl|rfl|rfl|rfl|rfl|rfl|rfl|rfl|rfl|rfl|rfl|rfl|rfl|rfl|rfl|rfl|rfl|rfl|rfl|rfl|rfl|rfl|rfl|rfl|rfl|rfl|rfl|rfl|rfl|rfl|rfl|rfl|rfl|rfl|rfl|rfl|rfl
  · exact st_1 a b w
  · exact st_2 a b w
  · exact st_3 a b w
  · exact st_4 a b w
  · exact st_5 a b w
  · exact st_6 a b w
  · exact st_7 a b w
  · exact st_8 a b w
  · exact st_9 a b w
  · exact st_10 a b w
  · exact st_11 a b w
  · exact st_12 a b w
  · exact st_13 a b w
  · exact st_14 a b w
  · exact st_15 a b w
  · exact st_16 a b w
  · exact st_17 a b w
  · exact st_18 a b w
  · exact st_19 a b w
  · exact st_20 a b w
  · exact st_21 a b w
  · exact st_22 a b w
  · exact st_23 a b w
  · exact st_24 a b w
  · exact st_25 a b w
  · exact st_26 a b w
  · exact st_27 a b w
  · exact st_28 a b w
  · exact st_29 a b w
  · exact st_30 a b w
  · exact st_31 a b w
  · exact st_32 a b w
  · exact st_33 a b w
  · exact st_34 a b w (nameOk_34 h).1 (nameOk_34 h).2
  · exact st_35 a b w (nameOk_35 h)
  · exact st_36 a b w
  · exact st_37 a b w (nameOk_37 h).1 (nameOk_37 h).2
  · exact st_38 a b w
  · exact st_39 a b w
  · exact st_40 a b w
  · exact st_41 a b w
  · exact st_42 a b w
  · exact st_43 a b w
  · exact st_44 a b w
  · exact st_45 a b w
end Go.Proofs.YtcbgcjkcfolcoaaDoor

namespace Go.Proofs.YtcbgcjkcfolcoaaDoor
open Go.RowKit

def NmPost (m : PM) (f : PF) (i : PI) (w : World) (e : Ending) (w' : World) : Prop := e = .returned (.bool (nameOk m f.slots f.code.length i)) ∧ Below w.heap.size w w'
theorem NmPost.mk {m : PM} {f : PF} {i : PI} {w w' : World} {c : Bool} (hc : c = nameOk m f.slots f.code.length i) (h : Below w.heap.size w w') : NmPost m f i w (.returned (.bool c)) w' := by
  rw [hc]; exact ⟨rfl, h⟩
theorem Bl.drewN {B : Nat} {a w : World} (h : Below B a w) (n : Nat) : Below B a (w.drewN n) := ⟨h.os, h.tape, h.output, h.size, h.block⟩
theorem cell_al {w : World} {a : Addr} {v : Value} (h : w.cell? a = some v) : ∀ o, (w.alloc o).cell? a = some v := fun o => by
  rw [World.cell?_alloc_lt _ _ a (cell_lt h)]; exact h
theorem ImgAt.alloc {w : World} {b : Nat} {m : PM} {vf vc vk : Value} (h : ImgAt w b m vf vc vk) (o : Obj) : ImgAt (w.alloc o) b m vf vc vk := h.keep ((Below.refl _ _).alloc (Nat.le_refl _) _)
theorem ImgAt.drewN {w : World} {b : Nat} {m : PM} {vf vc vk : Value} (h : ImgAt w b m vf vc vk) (n : Nat) : ImgAt (w.drewN n) b m vf vc vk := h.keep (Bl.drewN (Below.refl _ _) n)
theorem FnAt.alloc {w : World} {fb fo : Nat} {C : Nat → Value} {f : PF} (h : FnAt w fb fo C f) (o : Obj) : FnAt (w.alloc o) fb fo C f := h.keep ((Below.refl _ _).alloc (Nat.le_refl _) _)
theorem FnAt.drewN {w : World} {fb fo : Nat} {C : Nat → Value} {f : PF} (h : FnAt w fb fo C f) (n : Nat) : FnAt (w.drewN n) fb fo C f := h.keep (Bl.drewN (Below.refl _ _) n)
theorem below_is {n many : Int} {c : Bool} (h : belowB n many = c) (w : World) : Calls Tryd.prog 40 #[.int .i64 n, .int .i64 many] w fun e w' => e = .returned (.bool c) ∧ w = w' := by
  rw [← h]; exact below_any n many w
theorem text_is {w : World} {b : Nat} {m : PM} {vf vc vk : Value} {n : Int} {c : Bool} (hc : isText m n = c) (h : ImgAt w b m vf vc vk) :
    Calls Tryd.prog 50 #[.pointer (some ⟨b, 0, none⟩), .int .i64 n] w fun e w' => e = .returned (.bool c) ∧ w = w' := by
  rw [← hc]; exact text_any h n
theorem callable_is {w : World} {b : Nat} {m : PM} {vf vc vk : Value} {n : Int} {c : Bool} (hc : callB m n = c) (h : ImgAt w b m vf vc vk) :
    Calls Tryd.prog 33 #[.pointer (some ⟨b, 0, none⟩), .int .i64 n] w fun e w' => e = .returned (.bool c) ∧ w = w' := by
  rw [← hc]; exact callable_any h n
theorem same_back {P : Program} {F : FuncId} {args : Array Value} {w : World} {v : Value} (h : Calls P F args w fun e w' => e = .returned v ∧ w = w') : Calls P F args w fun e w' => e = .returned v ∧ w' = w := h.mono fun _ _ k => ⟨k.1, k.2.symm⟩

set_option maxHeartbeats 2000000 in
theorem nm_1 {w : World} {b : Nat} {m : PM} {vf vc vk : Value} (_h : ImgAt w b m vf vc vk) {fb fo : Nat} {C : Nat → Value} {f : PF} (_hf : FnAt w fb fo C f) (x y : Int) :
    Calls Tryd.prog 41 #[.pointer (some ⟨b, 0, none⟩), .pointer (some ⟨fb, fo, none⟩), .agg #[.int .i64 1, .int .i64 x, .int .i64 y]] w fun e w' => NmPost m f ⟨1, x, y⟩ w e w' := by
  clear _h _hf
  go_enter Tryd.func41, Tryd.ntmps41
  go_wp2_with fail
  go_ret
  exact NmPost.mk rfl ((Below.refl _ _).alloc (Nat.le_refl _) _)

set_option maxHeartbeats 2000000 in
theorem nm_3 {w : World} {b : Nat} {m : PM} {vf vc vk : Value} (_h : ImgAt w b m vf vc vk) {fb fo : Nat} {C : Nat → Value} {f : PF} (_hf : FnAt w fb fo C f) (x y : Int) :
    Calls Tryd.prog 41 #[.pointer (some ⟨b, 0, none⟩), .pointer (some ⟨fb, fo, none⟩), .agg #[.int .i64 3, .int .i64 x, .int .i64 y]] w fun e w' => NmPost m f ⟨3, x, y⟩ w e w' := by
  clear _h _hf
  go_enter Tryd.func41, Tryd.ntmps41
  go_wp2_with fail
  go_ret
  exact NmPost.mk rfl ((Below.refl _ _).alloc (Nat.le_refl _) _)

set_option maxHeartbeats 2000000 in
theorem nm_4 {w : World} {b : Nat} {m : PM} {vf vc vk : Value} (_h : ImgAt w b m vf vc vk) {fb fo : Nat} {C : Nat → Value} {f : PF} (_hf : FnAt w fb fo C f) (x y : Int) :
    Calls Tryd.prog 41 #[.pointer (some ⟨b, 0, none⟩), .pointer (some ⟨fb, fo, none⟩), .agg #[.int .i64 4, .int .i64 x, .int .i64 y]] w fun e w' => NmPost m f ⟨4, x, y⟩ w e w' := by
  clear _h _hf
  go_enter Tryd.func41, Tryd.ntmps41
  go_wp2_with fail
  go_ret
  exact NmPost.mk rfl ((Below.refl _ _).alloc (Nat.le_refl _) _)

set_option maxHeartbeats 2000000 in
theorem nm_5 {w : World} {b : Nat} {m : PM} {vf vc vk : Value} (_h : ImgAt w b m vf vc vk) {fb fo : Nat} {C : Nat → Value} {f : PF} (_hf : FnAt w fb fo C f) (x y : Int) :
    Calls Tryd.prog 41 #[.pointer (some ⟨b, 0, none⟩), .pointer (some ⟨fb, fo, none⟩), .agg #[.int .i64 5, .int .i64 x, .int .i64 y]] w fun e w' => NmPost m f ⟨5, x, y⟩ w e w' := by
  clear _h _hf
  go_enter Tryd.func41, Tryd.ntmps41
  go_wp2_with fail
  go_ret
  exact NmPost.mk rfl ((Below.refl _ _).alloc (Nat.le_refl _) _)

set_option maxHeartbeats 2000000 in
theorem nm_14 {w : World} {b : Nat} {m : PM} {vf vc vk : Value} (_h : ImgAt w b m vf vc vk) {fb fo : Nat} {C : Nat → Value} {f : PF} (_hf : FnAt w fb fo C f) (x y : Int) :
    Calls Tryd.prog 41 #[.pointer (some ⟨b, 0, none⟩), .pointer (some ⟨fb, fo, none⟩), .agg #[.int .i64 14, .int .i64 x, .int .i64 y]] w fun e w' => NmPost m f ⟨14, x, y⟩ w e w' := by
  clear _h _hf
  go_enter Tryd.func41, Tryd.ntmps41
  go_wp2_with fail
  go_ret
  exact NmPost.mk rfl ((Below.refl _ _).alloc (Nat.le_refl _) _)

set_option maxHeartbeats 2000000 in
theorem nm_19 {w : World} {b : Nat} {m : PM} {vf vc vk : Value} (_h : ImgAt w b m vf vc vk) {fb fo : Nat} {C : Nat → Value} {f : PF} (_hf : FnAt w fb fo C f) (x y : Int) :
    Calls Tryd.prog 41 #[.pointer (some ⟨b, 0, none⟩), .pointer (some ⟨fb, fo, none⟩), .agg #[.int .i64 19, .int .i64 x, .int .i64 y]] w fun e w' => NmPost m f ⟨19, x, y⟩ w e w' := by
  clear _h _hf
  go_enter Tryd.func41, Tryd.ntmps41
  go_wp2_with fail
  go_ret
  exact NmPost.mk rfl ((Below.refl _ _).alloc (Nat.le_refl _) _)

set_option maxHeartbeats 2000000 in
theorem nm_20 {w : World} {b : Nat} {m : PM} {vf vc vk : Value} (_h : ImgAt w b m vf vc vk) {fb fo : Nat} {C : Nat → Value} {f : PF} (_hf : FnAt w fb fo C f) (x y : Int) :
    Calls Tryd.prog 41 #[.pointer (some ⟨b, 0, none⟩), .pointer (some ⟨fb, fo, none⟩), .agg #[.int .i64 20, .int .i64 x, .int .i64 y]] w fun e w' => NmPost m f ⟨20, x, y⟩ w e w' := by
  clear _h _hf
  go_enter Tryd.func41, Tryd.ntmps41
  go_wp2_with fail
  go_ret
  exact NmPost.mk rfl ((Below.refl _ _).alloc (Nat.le_refl _) _)

set_option maxHeartbeats 2000000 in
theorem nm_21 {w : World} {b : Nat} {m : PM} {vf vc vk : Value} (_h : ImgAt w b m vf vc vk) {fb fo : Nat} {C : Nat → Value} {f : PF} (_hf : FnAt w fb fo C f) (x y : Int) :
    Calls Tryd.prog 41 #[.pointer (some ⟨b, 0, none⟩), .pointer (some ⟨fb, fo, none⟩), .agg #[.int .i64 21, .int .i64 x, .int .i64 y]] w fun e w' => NmPost m f ⟨21, x, y⟩ w e w' := by
  clear _h _hf
  go_enter Tryd.func41, Tryd.ntmps41
  go_wp2_with fail
  go_ret
  exact NmPost.mk rfl ((Below.refl _ _).alloc (Nat.le_refl _) _)

set_option maxHeartbeats 2000000 in
theorem nm_22 {w : World} {b : Nat} {m : PM} {vf vc vk : Value} (_h : ImgAt w b m vf vc vk) {fb fo : Nat} {C : Nat → Value} {f : PF} (_hf : FnAt w fb fo C f) (x y : Int) :
    Calls Tryd.prog 41 #[.pointer (some ⟨b, 0, none⟩), .pointer (some ⟨fb, fo, none⟩), .agg #[.int .i64 22, .int .i64 x, .int .i64 y]] w fun e w' => NmPost m f ⟨22, x, y⟩ w e w' := by
  clear _h _hf
  go_enter Tryd.func41, Tryd.ntmps41
  go_wp2_with fail
  go_ret
  exact NmPost.mk rfl ((Below.refl _ _).alloc (Nat.le_refl _) _)

set_option maxHeartbeats 2000000 in
theorem nm_23 {w : World} {b : Nat} {m : PM} {vf vc vk : Value} (_h : ImgAt w b m vf vc vk) {fb fo : Nat} {C : Nat → Value} {f : PF} (_hf : FnAt w fb fo C f) (x y : Int) :
    Calls Tryd.prog 41 #[.pointer (some ⟨b, 0, none⟩), .pointer (some ⟨fb, fo, none⟩), .agg #[.int .i64 23, .int .i64 x, .int .i64 y]] w fun e w' => NmPost m f ⟨23, x, y⟩ w e w' := by
  clear _h _hf
  go_enter Tryd.func41, Tryd.ntmps41
  go_wp2_with fail
  go_ret
  exact NmPost.mk rfl ((Below.refl _ _).alloc (Nat.le_refl _) _)

set_option maxHeartbeats 2000000 in
theorem nm_24 {w : World} {b : Nat} {m : PM} {vf vc vk : Value} (_h : ImgAt w b m vf vc vk) {fb fo : Nat} {C : Nat → Value} {f : PF} (_hf : FnAt w fb fo C f) (x y : Int) :
    Calls Tryd.prog 41 #[.pointer (some ⟨b, 0, none⟩), .pointer (some ⟨fb, fo, none⟩), .agg #[.int .i64 24, .int .i64 x, .int .i64 y]] w fun e w' => NmPost m f ⟨24, x, y⟩ w e w' := by
  clear _h _hf
  go_enter Tryd.func41, Tryd.ntmps41
  go_wp2_with fail
  go_ret
  exact NmPost.mk rfl ((Below.refl _ _).alloc (Nat.le_refl _) _)

set_option maxHeartbeats 2000000 in
theorem nm_25 {w : World} {b : Nat} {m : PM} {vf vc vk : Value} (_h : ImgAt w b m vf vc vk) {fb fo : Nat} {C : Nat → Value} {f : PF} (_hf : FnAt w fb fo C f) (x y : Int) :
    Calls Tryd.prog 41 #[.pointer (some ⟨b, 0, none⟩), .pointer (some ⟨fb, fo, none⟩), .agg #[.int .i64 25, .int .i64 x, .int .i64 y]] w fun e w' => NmPost m f ⟨25, x, y⟩ w e w' := by
  clear _h _hf
  go_enter Tryd.func41, Tryd.ntmps41
  go_wp2_with fail
  go_ret
  exact NmPost.mk rfl ((Below.refl _ _).alloc (Nat.le_refl _) _)

set_option maxHeartbeats 2000000 in
theorem nm_26 {w : World} {b : Nat} {m : PM} {vf vc vk : Value} (_h : ImgAt w b m vf vc vk) {fb fo : Nat} {C : Nat → Value} {f : PF} (_hf : FnAt w fb fo C f) (x y : Int) :
    Calls Tryd.prog 41 #[.pointer (some ⟨b, 0, none⟩), .pointer (some ⟨fb, fo, none⟩), .agg #[.int .i64 26, .int .i64 x, .int .i64 y]] w fun e w' => NmPost m f ⟨26, x, y⟩ w e w' := by
  clear _h _hf
  go_enter Tryd.func41, Tryd.ntmps41
  go_wp2_with fail
  go_ret
  exact NmPost.mk rfl ((Below.refl _ _).alloc (Nat.le_refl _) _)

set_option maxHeartbeats 2000000 in
theorem nm_27 {w : World} {b : Nat} {m : PM} {vf vc vk : Value} (_h : ImgAt w b m vf vc vk) {fb fo : Nat} {C : Nat → Value} {f : PF} (_hf : FnAt w fb fo C f) (x y : Int) :
    Calls Tryd.prog 41 #[.pointer (some ⟨b, 0, none⟩), .pointer (some ⟨fb, fo, none⟩), .agg #[.int .i64 27, .int .i64 x, .int .i64 y]] w fun e w' => NmPost m f ⟨27, x, y⟩ w e w' := by
  clear _h _hf
  go_enter Tryd.func41, Tryd.ntmps41
  go_wp2_with fail
  go_ret
  exact NmPost.mk rfl ((Below.refl _ _).alloc (Nat.le_refl _) _)

set_option maxHeartbeats 2000000 in
theorem nm_28 {w : World} {b : Nat} {m : PM} {vf vc vk : Value} (_h : ImgAt w b m vf vc vk) {fb fo : Nat} {C : Nat → Value} {f : PF} (_hf : FnAt w fb fo C f) (x y : Int) :
    Calls Tryd.prog 41 #[.pointer (some ⟨b, 0, none⟩), .pointer (some ⟨fb, fo, none⟩), .agg #[.int .i64 28, .int .i64 x, .int .i64 y]] w fun e w' => NmPost m f ⟨28, x, y⟩ w e w' := by
  clear _h _hf
  go_enter Tryd.func41, Tryd.ntmps41
  go_wp2_with fail
  go_ret
  exact NmPost.mk rfl ((Below.refl _ _).alloc (Nat.le_refl _) _)

set_option maxHeartbeats 2000000 in
theorem nm_30 {w : World} {b : Nat} {m : PM} {vf vc vk : Value} (_h : ImgAt w b m vf vc vk) {fb fo : Nat} {C : Nat → Value} {f : PF} (_hf : FnAt w fb fo C f) (x y : Int) :
    Calls Tryd.prog 41 #[.pointer (some ⟨b, 0, none⟩), .pointer (some ⟨fb, fo, none⟩), .agg #[.int .i64 30, .int .i64 x, .int .i64 y]] w fun e w' => NmPost m f ⟨30, x, y⟩ w e w' := by
  clear _h _hf
  go_enter Tryd.func41, Tryd.ntmps41
  go_wp2_with fail
  go_ret
  exact NmPost.mk rfl ((Below.refl _ _).alloc (Nat.le_refl _) _)

set_option maxHeartbeats 2000000 in
theorem nm_31 {w : World} {b : Nat} {m : PM} {vf vc vk : Value} (_h : ImgAt w b m vf vc vk) {fb fo : Nat} {C : Nat → Value} {f : PF} (_hf : FnAt w fb fo C f) (x y : Int) :
    Calls Tryd.prog 41 #[.pointer (some ⟨b, 0, none⟩), .pointer (some ⟨fb, fo, none⟩), .agg #[.int .i64 31, .int .i64 x, .int .i64 y]] w fun e w' => NmPost m f ⟨31, x, y⟩ w e w' := by
  clear _h _hf
  go_enter Tryd.func41, Tryd.ntmps41
  go_wp2_with fail
  go_ret
  exact NmPost.mk rfl ((Below.refl _ _).alloc (Nat.le_refl _) _)

set_option maxHeartbeats 2000000 in
theorem nm_40 {w : World} {b : Nat} {m : PM} {vf vc vk : Value} (_h : ImgAt w b m vf vc vk) {fb fo : Nat} {C : Nat → Value} {f : PF} (_hf : FnAt w fb fo C f) (x y : Int) :
    Calls Tryd.prog 41 #[.pointer (some ⟨b, 0, none⟩), .pointer (some ⟨fb, fo, none⟩), .agg #[.int .i64 40, .int .i64 x, .int .i64 y]] w fun e w' => NmPost m f ⟨40, x, y⟩ w e w' := by
  clear _h _hf
  go_enter Tryd.func41, Tryd.ntmps41
  go_wp2_with fail
  go_ret
  exact NmPost.mk rfl ((Below.refl _ _).alloc (Nat.le_refl _) _)

set_option maxHeartbeats 2000000 in
theorem nm_41 {w : World} {b : Nat} {m : PM} {vf vc vk : Value} (_h : ImgAt w b m vf vc vk) {fb fo : Nat} {C : Nat → Value} {f : PF} (_hf : FnAt w fb fo C f) (x y : Int) :
    Calls Tryd.prog 41 #[.pointer (some ⟨b, 0, none⟩), .pointer (some ⟨fb, fo, none⟩), .agg #[.int .i64 41, .int .i64 x, .int .i64 y]] w fun e w' => NmPost m f ⟨41, x, y⟩ w e w' := by
  clear _h _hf
  go_enter Tryd.func41, Tryd.ntmps41
  go_wp2_with fail
  go_ret
  exact NmPost.mk rfl ((Below.refl _ _).alloc (Nat.le_refl _) _)

set_option maxHeartbeats 2000000 in
theorem nm_42 {w : World} {b : Nat} {m : PM} {vf vc vk : Value} (_h : ImgAt w b m vf vc vk) {fb fo : Nat} {C : Nat → Value} {f : PF} (_hf : FnAt w fb fo C f) (x y : Int) :
    Calls Tryd.prog 41 #[.pointer (some ⟨b, 0, none⟩), .pointer (some ⟨fb, fo, none⟩), .agg #[.int .i64 42, .int .i64 x, .int .i64 y]] w fun e w' => NmPost m f ⟨42, x, y⟩ w e w' := by
  clear _h _hf
  go_enter Tryd.func41, Tryd.ntmps41
  go_wp2_with fail
  go_ret
  exact NmPost.mk rfl ((Below.refl _ _).alloc (Nat.le_refl _) _)

set_option maxHeartbeats 2000000 in
theorem nm_43 {w : World} {b : Nat} {m : PM} {vf vc vk : Value} (_h : ImgAt w b m vf vc vk) {fb fo : Nat} {C : Nat → Value} {f : PF} (_hf : FnAt w fb fo C f) (x y : Int) :
    Calls Tryd.prog 41 #[.pointer (some ⟨b, 0, none⟩), .pointer (some ⟨fb, fo, none⟩), .agg #[.int .i64 43, .int .i64 x, .int .i64 y]] w fun e w' => NmPost m f ⟨43, x, y⟩ w e w' := by
  clear _h _hf
  go_enter Tryd.func41, Tryd.ntmps41
  go_wp2_with fail
  go_ret
  exact NmPost.mk rfl ((Below.refl _ _).alloc (Nat.le_refl _) _)

set_option maxHeartbeats 2000000 in
theorem nm_44 {w : World} {b : Nat} {m : PM} {vf vc vk : Value} (_h : ImgAt w b m vf vc vk) {fb fo : Nat} {C : Nat → Value} {f : PF} (_hf : FnAt w fb fo C f) (x y : Int) :
    Calls Tryd.prog 41 #[.pointer (some ⟨b, 0, none⟩), .pointer (some ⟨fb, fo, none⟩), .agg #[.int .i64 44, .int .i64 x, .int .i64 y]] w fun e w' => NmPost m f ⟨44, x, y⟩ w e w' := by
  clear _h _hf
  go_enter Tryd.func41, Tryd.ntmps41
  go_wp2_with fail
  go_ret
  exact NmPost.mk rfl ((Below.refl _ _).alloc (Nat.le_refl _) _)

set_option maxHeartbeats 2000000 in
theorem nm_45 {w : World} {b : Nat} {m : PM} {vf vc vk : Value} (_h : ImgAt w b m vf vc vk) {fb fo : Nat} {C : Nat → Value} {f : PF} (_hf : FnAt w fb fo C f) (x y : Int) :
    Calls Tryd.prog 41 #[.pointer (some ⟨b, 0, none⟩), .pointer (some ⟨fb, fo, none⟩), .agg #[.int .i64 45, .int .i64 x, .int .i64 y]] w fun e w' => NmPost m f ⟨45, x, y⟩ w e w' := by
  clear _h _hf
  go_enter Tryd.func41, Tryd.ntmps41
  go_wp2_with fail
  go_ret
  exact NmPost.mk rfl ((Below.refl _ _).alloc (Nat.le_refl _) _)
end Go.Proofs.YtcbgcjkcfolcoaaDoor
