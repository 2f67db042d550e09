/-
  The document's check of a function.
-/
import Derived.Test.YtpfhnmgfcmkidaaDoorCPass
namespace Go.Proofs.YtpfhnmgfcmkidaaDoor
open Go.RowKit

/-- What is asked of memory when a function is checked. -/
structure FunAsk (w : World) (b : Nat) (m : PM) (vf vc vk : Value) (f : PF) (g3 g4 g5 : Option Addr) (p3 p4 p5 : Nat) : Prop where
  img : ImgAt w b m vf vc vk
  h1 : m.funcs.length ≤ 250
  h2 : m.consts.length ≤ 1000
  h3 : m.classes.length ≤ 250
  code : InstrsAt w (.slice g3 f.code.length p3) f.code
  hands : HandsAt w (.slice g4 f.hands.length p4) f.hands
  vars : VarsAt w (.slice g5 f.vars.length p5) f.vars
  inb : InB f
def RFnPost (m : PM) (f : PF) (w : World) (e : Ending) (w' : World) : Prop := Below w.heap.size w w' ∧ ∃ n, e = .returned (.int .i64 n) ∧ FnErr m f n
theorem RFnPost.mk {m : PM} {f : PF} {w w' : World} {n : Int} (h : Below w.heap.size w w') (hn : FnErr m f n) : RFnPost m f w (.returned (.int .i64 n)) w' := ⟨h, n, rfl, hn⟩

def boxF (f : PF) (g3 g4 g5 : Option Addr) (p3 p4 p5 : Nat) : Array Value := #[.string f.name, .int .i64 f.params, .int .i64 f.slots, .slice g3 f.code.length p3, .slice g4 f.hands.length p4, .slice g5 f.vars.length p5]
theorem len_form {w : World} {g : Option Addr} {n n' p k b : Nat} {R : Nat → Nat → Value} (h : SlAt w (.slice g n p) n' k b R) : n = n' ∧ n * b ≤ 140737488355328 ∧ RowsAt w g n k R := by
  obtain ⟨g', cap, h1, h2, h3⟩ := h
  cases h1
  exact ⟨rfl, h2, h3⟩

set_option maxRecDepth 100000 in
set_option maxHeartbeats 4000000 in
theorem rfun_size {w : World} {b : Nat} {m : PM} {vf vc vk : Value} {f : PF} {g3 g4 g5 : Option Addr} {p3 p4 p5 : Nat} (_h : FunAsk w b m vf vc vk f g3 g4 g5 p3 p4 p5) (hs : sizeOk f = false) :
    Calls Tryd.prog 18 #[.pointer (some ⟨b, 0, none⟩), .agg #[.string f.name, .int .i64 f.params, .int .i64 f.slots, .slice g3 f.code.length p3, .slice g4 f.hands.length p4, .slice g5 f.vars.length p5]] w fun e w' => RFnPost m f w e w' := by
  have HF : Hid (FnErr m f 4) := Or.inl ⟨hs, rfl⟩
  have hs2 : (inB f.code.length 1 5000 && inB f.params 0 8 && inB f.slots f.params 200) = false := hs
  clear hs _h
  cases q1 : inB f.code.length 1 5000 with
  | false =>
    clear hs2
    go_enter Tryd.func18, Tryd.ntmps18
    go_wp2_with fail
    refine (within_is q1 _).mono ?_
    rintro e wa ⟨rfl, rfl⟩
    go_wp2_with fail
    go_ret
    exact RFnPost.mk ((Below.refl _ _).alloc (Nat.le_refl _) _) (unhide HF)
  | true =>
    cases q2 : inB f.params 0 8 with
    | false =>
      clear hs2
      go_enter Tryd.func18, Tryd.ntmps18
      go_wp2_with fail
      refine (within_is q1 _).mono ?_
      rintro e wa ⟨rfl, rfl⟩
      go_wp2_with fail
      refine (within_is q2 _).mono ?_
      rintro e wa ⟨rfl, rfl⟩
      go_wp2_with fail
      go_ret
      exact RFnPost.mk ((Below.refl _ _).alloc (Nat.le_refl _) _) (unhide HF)
    | true =>
      have q3 : inB f.slots f.params 200 = false := by rw [q1, q2] at hs2; exact hs2
      clear hs2
      go_enter Tryd.func18, Tryd.ntmps18
      go_wp2_with fail
      refine (within_is q1 _).mono ?_
      rintro e wa ⟨rfl, rfl⟩
      go_wp2_with fail
      refine (within_is q2 _).mono ?_
      rintro e wa ⟨rfl, rfl⟩
      go_wp2_with fail
      refine (within_is q3 _).mono ?_
      rintro e wa ⟨rfl, rfl⟩
      go_wp2_with fail
      go_ret
      exact RFnPost.mk ((Below.refl _ _).alloc (Nat.le_refl _) _) (unhide HF)
end Go.Proofs.YtpfhnmgfcmkidaaDoor
