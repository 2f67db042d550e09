/-
  Is there what an instruction names? (one)
-/
import Derived.Test.YtpfhnmgfcmkidaaDoorCStack
namespace Go.Proofs.YtpfhnmgfcmkidaaDoor
open Go.RowKit

def NmPost (m : PM) (f : PF) (i : PI) (w : World) (e : Ending) (w' : World) : Prop := e = .returned (.bool (nameOk m f.slots f.code.length i)) ∧ Below w.heap.size w w'
theorem NmPost.mk {m : PM} {f : PF} {i : PI} {w w' : World} {c : Bool} (hc : c = nameOk m f.slots f.code.length i) (h : Below w.heap.size w w') : NmPost m f i w (.returned (.bool c)) w' := by
  rw [hc]; exact ⟨rfl, h⟩
theorem Bl.drewN {B : Nat} {a w : World} (h : Below B a w) (n : Nat) : Below B a (w.drewN n) := ⟨h.os, h.tape, h.output, h.size, h.block⟩
theorem cell_al {w : World} {a : Addr} {v : Value} (h : w.cell? a = some v) : ∀ o, (w.alloc o).cell? a = some v := fun o => by
  rw [World.cell?_alloc_lt _ _ a (cell_lt h)]; exact h
theorem ImgAt.alloc {w : World} {b : Nat} {m : PM} {vf vc vk : Value} (h : ImgAt w b m vf vc vk) (o : Obj) : ImgAt (w.alloc o) b m vf vc vk := h.keep ((Below.refl _ _).alloc (Nat.le_refl _) _)
theorem ImgAt.drewN {w : World} {b : Nat} {m : PM} {vf vc vk : Value} (h : ImgAt w b m vf vc vk) (n : Nat) : ImgAt (w.drewN n) b m vf vc vk := h.keep (Bl.drewN (Below.refl _ _) n)
theorem FnAt.alloc {w : World} {fb fo : Nat} {C : Nat → Value} {f : PF} (h : FnAt w fb fo C f) (o : Obj) : FnAt (w.alloc o) fb fo C f := h.keep ((Below.refl _ _).alloc (Nat.le_refl _) _)
theorem FnAt.drewN {w : World} {fb fo : Nat} {C : Nat → Value} {f : PF} (h : FnAt w fb fo C f) (n : Nat) : FnAt (w.drewN n) fb fo C f := h.keep (Bl.drewN (Below.refl _ _) n)
theorem below_is {n many : Int} {c : Bool} (h : belowB n many = c) (w : World) : Calls Tryd.prog 41 #[.int .i64 n, .int .i64 many] w fun e w' => e = .returned (.bool c) ∧ w = w' := by
  rw [← h]; exact below_any n many w
theorem text_is {w : World} {b : Nat} {m : PM} {vf vc vk : Value} {n : Int} {c : Bool} (hc : isText m n = c) (h : ImgAt w b m vf vc vk) :
    Calls Tryd.prog 63 #[.pointer (some ⟨b, 0, none⟩), .int .i64 n] w fun e w' => e = .returned (.bool c) ∧ w = w' := by
  rw [← hc]; exact text_any h n
theorem callable_is {w : World} {b : Nat} {m : PM} {vf vc vk : Value} {n : Int} {c : Bool} (hc : callB m n = c) (h : ImgAt w b m vf vc vk) :
    Calls Tryd.prog 25 #[.pointer (some ⟨b, 0, none⟩), .int .i64 n] w fun e w' => e = .returned (.bool c) ∧ w = w' := by
  rw [← hc]; exact callable_any h n
theorem same_back {P : Program} {F : FuncId} {args : Array Value} {w : World} {v : Value} (h : Calls P F args w fun e w' => e = .returned v ∧ w = w') : Calls P F args w fun e w' => e = .returned v ∧ w' = w := h.mono fun _ _ k => ⟨k.1, k.2.symm⟩

set_option maxHeartbeats 2000000 in
theorem nm_1 {w : World} {b : Nat} {m : PM} {vf vc vk : Value} (_h : ImgAt w b m vf vc vk) {fb fo : Nat} {C : Nat → Value} {f : PF} (_hf : FnAt w fb fo C f) (x y : Int) :
    Calls Tryd.prog 42 #[.pointer (some ⟨b, 0, none⟩), .pointer (some ⟨fb, fo, none⟩), .agg #[.int .i64 1, .int .i64 x, .int .i64 y]] w fun e w' => NmPost m f ⟨1, x, y⟩ w e w' := by
  clear _h _hf
  go_enter Tryd.func42, Tryd.ntmps42
  go_wp2_with fail
  go_ret
  exact NmPost.mk rfl ((Below.refl _ _).alloc (Nat.le_refl _) _)

set_option maxHeartbeats 2000000 in
theorem nm_3 {w : World} {b : Nat} {m : PM} {vf vc vk : Value} (_h : ImgAt w b m vf vc vk) {fb fo : Nat} {C : Nat → Value} {f : PF} (_hf : FnAt w fb fo C f) (x y : Int) :
    Calls Tryd.prog 42 #[.pointer (some ⟨b, 0, none⟩), .pointer (some ⟨fb, fo, none⟩), .agg #[.int .i64 3, .int .i64 x, .int .i64 y]] w fun e w' => NmPost m f ⟨3, x, y⟩ w e w' := by
  clear _h _hf
  go_enter Tryd.func42, Tryd.ntmps42
  go_wp2_with fail
  go_ret
  exact NmPost.mk rfl ((Below.refl _ _).alloc (Nat.le_refl _) _)

set_option maxHeartbeats 2000000 in
theorem nm_4 {w : World} {b : Nat} {m : PM} {vf vc vk : Value} (_h : ImgAt w b m vf vc vk) {fb fo : Nat} {C : Nat → Value} {f : PF} (_hf : FnAt w fb fo C f) (x y : Int) :
    Calls Tryd.prog 42 #[.pointer (some ⟨b, 0, none⟩), .pointer (some ⟨fb, fo, none⟩), .agg #[.int .i64 4, .int .i64 x, .int .i64 y]] w fun e w' => NmPost m f ⟨4, x, y⟩ w e w' := by
  clear _h _hf
  go_enter Tryd.func42, Tryd.ntmps42
  go_wp2_with fail
  go_ret
  exact NmPost.mk rfl ((Below.refl _ _).alloc (Nat.le_refl _) _)

set_option maxHeartbeats 2000000 in
theorem nm_5 {w : World} {b : Nat} {m : PM} {vf vc vk : Value} (_h : ImgAt w b m vf vc vk) {fb fo : Nat} {C : Nat → Value} {f : PF} (_hf : FnAt w fb fo C f) (x y : Int) :
    Calls Tryd.prog 42 #[.pointer (some ⟨b, 0, none⟩), .pointer (some ⟨fb, fo, none⟩), .agg #[.int .i64 5, .int .i64 x, .int .i64 y]] w fun e w' => NmPost m f ⟨5, x, y⟩ w e w' := by
  clear _h _hf
  go_enter Tryd.func42, Tryd.ntmps42
  go_wp2_with fail
  go_ret
  exact NmPost.mk rfl ((Below.refl _ _).alloc (Nat.le_refl _) _)

set_option maxHeartbeats 2000000 in
theorem nm_14 {w : World} {b : Nat} {m : PM} {vf vc vk : Value} (_h : ImgAt w b m vf vc vk) {fb fo : Nat} {C : Nat → Value} {f : PF} (_hf : FnAt w fb fo C f) (x y : Int) :
    Calls Tryd.prog 42 #[.pointer (some ⟨b, 0, none⟩), .pointer (some ⟨fb, fo, none⟩), .agg #[.int .i64 14, .int .i64 x, .int .i64 y]] w fun e w' => NmPost m f ⟨14, x, y⟩ w e w' := by
  clear _h _hf
  go_enter Tryd.func42, Tryd.ntmps42
  go_wp2_with fail
  go_ret
  exact NmPost.mk rfl ((Below.refl _ _).alloc (Nat.le_refl _) _)

set_option maxHeartbeats 2000000 in
theorem nm_19 {w : World} {b : Nat} {m : PM} {vf vc vk : Value} (_h : ImgAt w b m vf vc vk) {fb fo : Nat} {C : Nat → Value} {f : PF} (_hf : FnAt w fb fo C f) (x y : Int) :
    Calls Tryd.prog 42 #[.pointer (some ⟨b, 0, none⟩), .pointer (some ⟨fb, fo, none⟩), .agg #[.int .i64 19, .int .i64 x, .int .i64 y]] w fun e w' => NmPost m f ⟨19, x, y⟩ w e w' := by
  clear _h _hf
  go_enter Tryd.func42, Tryd.ntmps42
  go_wp2_with fail
  go_ret
  exact NmPost.mk rfl ((Below.refl _ _).alloc (Nat.le_refl _) _)

set_option maxHeartbeats 2000000 in
theorem nm_20 {w : World} {b : Nat} {m : PM} {vf vc vk : Value} (_h : ImgAt w b m vf vc vk) {fb fo : Nat} {C : Nat → Value} {f : PF} (_hf : FnAt w fb fo C f) (x y : Int) :
    Calls Tryd.prog 42 #[.pointer (some ⟨b, 0, none⟩), .pointer (some ⟨fb, fo, none⟩), .agg #[.int .i64 20, .int .i64 x, .int .i64 y]] w fun e w' => NmPost m f ⟨20, x, y⟩ w e w' := by
  clear _h _hf
  go_enter Tryd.func42, Tryd.ntmps42
  go_wp2_with fail
  go_ret
  exact NmPost.mk rfl ((Below.refl _ _).alloc (Nat.le_refl _) _)

set_option maxHeartbeats 2000000 in
theorem nm_21 {w : World} {b : Nat} {m : PM} {vf vc vk : Value} (_h : ImgAt w b m vf vc vk) {fb fo : Nat} {C : Nat → Value} {f : PF} (_hf : FnAt w fb fo C f) (x y : Int) :
    Calls Tryd.prog 42 #[.pointer (some ⟨b, 0, none⟩), .pointer (some ⟨fb, fo, none⟩), .agg #[.int .i64 21, .int .i64 x, .int .i64 y]] w fun e w' => NmPost m f ⟨21, x, y⟩ w e w' := by
  clear _h _hf
  go_enter Tryd.func42, Tryd.ntmps42
  go_wp2_with fail
  go_ret
  exact NmPost.mk rfl ((Below.refl _ _).alloc (Nat.le_refl _) _)

set_option maxHeartbeats 2000000 in
theorem nm_22 {w : World} {b : Nat} {m : PM} {vf vc vk : Value} (_h : ImgAt w b m vf vc vk) {fb fo : Nat} {C : Nat → Value} {f : PF} (_hf : FnAt w fb fo C f) (x y : Int) :
    Calls Tryd.prog 42 #[.pointer (some ⟨b, 0, none⟩), .pointer (some ⟨fb, fo, none⟩), .agg #[.int .i64 22, .int .i64 x, .int .i64 y]] w fun e w' => NmPost m f ⟨22, x, y⟩ w e w' := by
  clear _h _hf
  go_enter Tryd.func42, Tryd.ntmps42
  go_wp2_with fail
  go_ret
  exact NmPost.mk rfl ((Below.refl _ _).alloc (Nat.le_refl _) _)

set_option maxHeartbeats 2000000 in
theorem nm_23 {w : World} {b : Nat} {m : PM} {vf vc vk : Value} (_h : ImgAt w b m vf vc vk) {fb fo : Nat} {C : Nat → Value} {f : PF} (_hf : FnAt w fb fo C f) (x y : Int) :
    Calls Tryd.prog 42 #[.pointer (some ⟨b, 0, none⟩), .pointer (some ⟨fb, fo, none⟩), .agg #[.int .i64 23, .int .i64 x, .int .i64 y]] w fun e w' => NmPost m f ⟨23, x, y⟩ w e w' := by
  clear _h _hf
  go_enter Tryd.func42, Tryd.ntmps42
  go_wp2_with fail
  go_ret
  exact NmPost.mk rfl ((Below.refl _ _).alloc (Nat.le_refl _) _)

set_option maxHeartbeats 2000000 in
theorem nm_24 {w : World} {b : Nat} {m : PM} {vf vc vk : Value} (_h : ImgAt w b m vf vc vk) {fb fo : Nat} {C : Nat → Value} {f : PF} (_hf : FnAt w fb fo C f) (x y : Int) :
    Calls Tryd.prog 42 #[.pointer (some ⟨b, 0, none⟩), .pointer (some ⟨fb, fo, none⟩), .agg #[.int .i64 24, .int .i64 x, .int .i64 y]] w fun e w' => NmPost m f ⟨24, x, y⟩ w e w' := by
  clear _h _hf
  go_enter Tryd.func42, Tryd.ntmps42
  go_wp2_with fail
  go_ret
  exact NmPost.mk rfl ((Below.refl _ _).alloc (Nat.le_refl _) _)

set_option maxHeartbeats 2000000 in
theorem nm_25 {w : World} {b : Nat} {m : PM} {vf vc vk : Value} (_h : ImgAt w b m vf vc vk) {fb fo : Nat} {C : Nat → Value} {f : PF} (_hf : FnAt w fb fo C f) (x y : Int) :
    Calls Tryd.prog 42 #[.pointer (some ⟨b, 0, none⟩), .pointer (some ⟨fb, fo, none⟩), .agg #[.int .i64 25, .int .i64 x, .int .i64 y]] w fun e w' => NmPost m f ⟨25, x, y⟩ w e w' := by
  clear _h _hf
  go_enter Tryd.func42, Tryd.ntmps42
  go_wp2_with fail
  go_ret
  exact NmPost.mk rfl ((Below.refl _ _).alloc (Nat.le_refl _) _)

set_option maxHeartbeats 2000000 in
theorem nm_26 {w : World} {b : Nat} {m : PM} {vf vc vk : Value} (_h : ImgAt w b m vf vc vk) {fb fo : Nat} {C : Nat → Value} {f : PF} (_hf : FnAt w fb fo C f) (x y : Int) :
    Calls Tryd.prog 42 #[.pointer (some ⟨b, 0, none⟩), .pointer (some ⟨fb, fo, none⟩), .agg #[.int .i64 26, .int .i64 x, .int .i64 y]] w fun e w' => NmPost m f ⟨26, x, y⟩ w e w' := by
  clear _h _hf
  go_enter Tryd.func42, Tryd.ntmps42
  go_wp2_with fail
  go_ret
  exact NmPost.mk rfl ((Below.refl _ _).alloc (Nat.le_refl _) _)

set_option maxHeartbeats 2000000 in
theorem nm_27 {w : World} {b : Nat} {m : PM} {vf vc vk : Value} (_h : ImgAt w b m vf vc vk) {fb fo : Nat} {C : Nat → Value} {f : PF} (_hf : FnAt w fb fo C f) (x y : Int) :
    Calls Tryd.prog 42 #[.pointer (some ⟨b, 0, none⟩), .pointer (some ⟨fb, fo, none⟩), .agg #[.int .i64 27, .int .i64 x, .int .i64 y]] w fun e w' => NmPost m f ⟨27, x, y⟩ w e w' := by
  clear _h _hf
  go_enter Tryd.func42, Tryd.ntmps42
  go_wp2_with fail
  go_ret
  exact NmPost.mk rfl ((Below.refl _ _).alloc (Nat.le_refl _) _)

set_option maxHeartbeats 2000000 in
theorem nm_28 {w : World} {b : Nat} {m : PM} {vf vc vk : Value} (_h : ImgAt w b m vf vc vk) {fb fo : Nat} {C : Nat → Value} {f : PF} (_hf : FnAt w fb fo C f) (x y : Int) :
    Calls Tryd.prog 42 #[.pointer (some ⟨b, 0, none⟩), .pointer (some ⟨fb, fo, none⟩), .agg #[.int .i64 28, .int .i64 x, .int .i64 y]] w fun e w' => NmPost m f ⟨28, x, y⟩ w e w' := by
  clear _h _hf
  go_enter Tryd.func42, Tryd.ntmps42
  go_wp2_with fail
  go_ret
  exact NmPost.mk rfl ((Below.refl _ _).alloc (Nat.le_refl _) _)

set_option maxHeartbeats 2000000 in
theorem nm_30 {w : World} {b : Nat} {m : PM} {vf vc vk : Value} (_h : ImgAt w b m vf vc vk) {fb fo : Nat} {C : Nat → Value} {f : PF} (_hf : FnAt w fb fo C f) (x y : Int) :
    Calls Tryd.prog 42 #[.pointer (some ⟨b, 0, none⟩), .pointer (some ⟨fb, fo, none⟩), .agg #[.int .i64 30, .int .i64 x, .int .i64 y]] w fun e w' => NmPost m f ⟨30, x, y⟩ w e w' := by
  clear _h _hf
  go_enter Tryd.func42, Tryd.ntmps42
  go_wp2_with fail
  go_ret
  exact NmPost.mk rfl ((Below.refl _ _).alloc (Nat.le_refl _) _)

set_option maxHeartbeats 2000000 in
theorem nm_31 {w : World} {b : Nat} {m : PM} {vf vc vk : Value} (_h : ImgAt w b m vf vc vk) {fb fo : Nat} {C : Nat → Value} {f : PF} (_hf : FnAt w fb fo C f) (x y : Int) :
    Calls Tryd.prog 42 #[.pointer (some ⟨b, 0, none⟩), .pointer (some ⟨fb, fo, none⟩), .agg #[.int .i64 31, .int .i64 x, .int .i64 y]] w fun e w' => NmPost m f ⟨31, x, y⟩ w e w' := by
  clear _h _hf
  go_enter Tryd.func42, Tryd.ntmps42
  go_wp2_with fail
  go_ret
  exact NmPost.mk rfl ((Below.refl _ _).alloc (Nat.le_refl _) _)

set_option maxHeartbeats 2000000 in
theorem nm_40 {w : World} {b : Nat} {m : PM} {vf vc vk : Value} (_h : ImgAt w b m vf vc vk) {fb fo : Nat} {C : Nat → Value} {f : PF} (_hf : FnAt w fb fo C f) (x y : Int) :
    Calls Tryd.prog 42 #[.pointer (some ⟨b, 0, none⟩), .pointer (some ⟨fb, fo, none⟩), .agg #[.int .i64 40, .int .i64 x, .int .i64 y]] w fun e w' => NmPost m f ⟨40, x, y⟩ w e w' := by
  clear _h _hf
  go_enter Tryd.func42, Tryd.ntmps42
  go_wp2_with fail
  go_ret
  exact NmPost.mk rfl ((Below.refl _ _).alloc (Nat.le_refl _) _)

set_option maxHeartbeats 2000000 in
theorem nm_41 {w : World} {b : Nat} {m : PM} {vf vc vk : Value} (_h : ImgAt w b m vf vc vk) {fb fo : Nat} {C : Nat → Value} {f : PF} (_hf : FnAt w fb fo C f) (x y : Int) :
    Calls Tryd.prog 42 #[.pointer (some ⟨b, 0, none⟩), .pointer (some ⟨fb, fo, none⟩), .agg #[.int .i64 41, .int .i64 x, .int .i64 y]] w fun e w' => NmPost m f ⟨41, x, y⟩ w e w' := by
  clear _h _hf
  go_enter Tryd.func42, Tryd.ntmps42
  go_wp2_with fail
  go_ret
  exact NmPost.mk rfl ((Below.refl _ _).alloc (Nat.le_refl _) _)

set_option maxHeartbeats 2000000 in
theorem nm_42 {w : World} {b : Nat} {m : PM} {vf vc vk : Value} (_h : ImgAt w b m vf vc vk) {fb fo : Nat} {C : Nat → Value} {f : PF} (_hf : FnAt w fb fo C f) (x y : Int) :
    Calls Tryd.prog 42 #[.pointer (some ⟨b, 0, none⟩), .pointer (some ⟨fb, fo, none⟩), .agg #[.int .i64 42, .int .i64 x, .int .i64 y]] w fun e w' => NmPost m f ⟨42, x, y⟩ w e w' := by
  clear _h _hf
  go_enter Tryd.func42, Tryd.ntmps42
  go_wp2_with fail
  go_ret
  exact NmPost.mk rfl ((Below.refl _ _).alloc (Nat.le_refl _) _)

set_option maxHeartbeats 2000000 in
theorem nm_43 {w : World} {b : Nat} {m : PM} {vf vc vk : Value} (_h : ImgAt w b m vf vc vk) {fb fo : Nat} {C : Nat → Value} {f : PF} (_hf : FnAt w fb fo C f) (x y : Int) :
    Calls Tryd.prog 42 #[.pointer (some ⟨b, 0, none⟩), .pointer (some ⟨fb, fo, none⟩), .agg #[.int .i64 43, .int .i64 x, .int .i64 y]] w fun e w' => NmPost m f ⟨43, x, y⟩ w e w' := by
  clear _h _hf
  go_enter Tryd.func42, Tryd.ntmps42
  go_wp2_with fail
  go_ret
  exact NmPost.mk rfl ((Below.refl _ _).alloc (Nat.le_refl _) _)

set_option maxHeartbeats 2000000 in
theorem nm_44 {w : World} {b : Nat} {m : PM} {vf vc vk : Value} (_h : ImgAt w b m vf vc vk) {fb fo : Nat} {C : Nat → Value} {f : PF} (_hf : FnAt w fb fo C f) (x y : Int) :
    Calls Tryd.prog 42 #[.pointer (some ⟨b, 0, none⟩), .pointer (some ⟨fb, fo, none⟩), .agg #[.int .i64 44, .int .i64 x, .int .i64 y]] w fun e w' => NmPost m f ⟨44, x, y⟩ w e w' := by
  clear _h _hf
  go_enter Tryd.func42, Tryd.ntmps42
  go_wp2_with fail
  go_ret
  exact NmPost.mk rfl ((Below.refl _ _).alloc (Nat.le_refl _) _)

set_option maxHeartbeats 2000000 in
theorem nm_45 {w : World} {b : Nat} {m : PM} {vf vc vk : Value} (_h : ImgAt w b m vf vc vk) {fb fo : Nat} {C : Nat → Value} {f : PF} (_hf : FnAt w fb fo C f) (x y : Int) :
    Calls Tryd.prog 42 #[.pointer (some ⟨b, 0, none⟩), .pointer (some ⟨fb, fo, none⟩), .agg #[.int .i64 45, .int .i64 x, .int .i64 y]] w fun e w' => NmPost m f ⟨45, x, y⟩ w e w' := by
  clear _h _hf
  go_enter Tryd.func42, Tryd.ntmps42
  go_wp2_with fail
  go_ret
  exact NmPost.mk rfl ((Below.refl _ _).alloc (Nat.le_refl _) _)
end Go.Proofs.YtpfhnmgfcmkidaaDoor
