/-
  Is there what an instruction names? (two)
  Is there what an instruction names? (three)
  Is there what an instruction names? (all)
  Is all there that a function names?
-/
import Derived.Test.YtcbgcjkcfolcoaaDoorM04
namespace Go.Proofs.YtcbgcjkcfolcoaaDoor
open Go.RowKit

set_option maxHeartbeats 2000000 in
theorem nm_2 {w : World} {b : Nat} {m : PM} {vf vc vk : Value} (h : ImgAt w b m vf vc vk) {fb fo : Nat} {C : Nat → Value} {f : PF} (_hf : FnAt w fb fo C f) (x y : Int) :
    Calls Tryd.prog 41 #[.pointer (some ⟨b, 0, none⟩), .pointer (some ⟨fb, fo, none⟩), .agg #[.int .i64 2, .int .i64 x, .int .i64 y]] w fun e w' => NmPost m f ⟨2, x, y⟩ w e w' := by
  obtain ⟨g, cap, rfl, _, _⟩ := h.img.consts
  have c1 := cell_al h.c1
  clear h _hf
  go_enter Tryd.func41, Tryd.ntmps41
  go_wp2_with fail
  go_quiet ((go_at_call 40; exact Calls.quiet_of_same (same_back (below_any _ _ _))))
  go_wp2_with fail
  go_ret
  exact NmPost.mk rfl (Bl.drewN ((Below.refl _ _).alloc (Nat.le_refl _) _) _)

set_option maxHeartbeats 2000000 in
theorem nm_6 {w : World} {b : Nat} {m : PM} {vf vc vk : Value} (_h : ImgAt w b m vf vc vk) {fb fo : Nat} {C : Nat → Value} {f : PF} (hf : FnAt w fb fo C f) (x y : Int) :
    Calls Tryd.prog 41 #[.pointer (some ⟨b, 0, none⟩), .pointer (some ⟨fb, fo, none⟩), .agg #[.int .i64 6, .int .i64 x, .int .i64 y]] w fun e w' => NmPost m f ⟨6, x, y⟩ w e w' := by
  have c2 := cell_al hf.c2
  clear _h hf
  go_enter Tryd.func41, Tryd.ntmps41
  go_wp2_with fail
  go_quiet ((go_at_call 40; exact Calls.quiet_of_same (same_back (below_any _ _ _))))
  go_wp2_with fail
  go_ret
  exact NmPost.mk rfl (Bl.drewN ((Below.refl _ _).alloc (Nat.le_refl _) _) _)

set_option maxHeartbeats 2000000 in
theorem nm_7 {w : World} {b : Nat} {m : PM} {vf vc vk : Value} (_h : ImgAt w b m vf vc vk) {fb fo : Nat} {C : Nat → Value} {f : PF} (hf : FnAt w fb fo C f) (x y : Int) :
    Calls Tryd.prog 41 #[.pointer (some ⟨b, 0, none⟩), .pointer (some ⟨fb, fo, none⟩), .agg #[.int .i64 7, .int .i64 x, .int .i64 y]] w fun e w' => NmPost m f ⟨7, x, y⟩ w e w' := by
  have c2 := cell_al hf.c2
  clear _h hf
  go_enter Tryd.func41, Tryd.ntmps41
  go_wp2_with fail
  go_quiet ((go_at_call 40; exact Calls.quiet_of_same (same_back (below_any _ _ _))))
  go_wp2_with fail
  go_ret
  exact NmPost.mk rfl (Bl.drewN ((Below.refl _ _).alloc (Nat.le_refl _) _) _)

set_option maxHeartbeats 2000000 in
theorem nm_8 {w : World} {b : Nat} {m : PM} {vf vc vk : Value} (_h : ImgAt w b m vf vc vk) {fb fo : Nat} {C : Nat → Value} {f : PF} (hf : FnAt w fb fo C f) (x y : Int) :
    Calls Tryd.prog 41 #[.pointer (some ⟨b, 0, none⟩), .pointer (some ⟨fb, fo, none⟩), .agg #[.int .i64 8, .int .i64 x, .int .i64 y]] w fun e w' => NmPost m f ⟨8, x, y⟩ w e w' := by
  have c2 := cell_al hf.c2
  clear _h hf
  go_enter Tryd.func41, Tryd.ntmps41
  go_wp2_with fail
  go_quiet ((go_at_call 40; exact Calls.quiet_of_same (same_back (below_any _ _ _))))
  go_wp2_with fail
  go_ret
  exact NmPost.mk rfl (Bl.drewN ((Below.refl _ _).alloc (Nat.le_refl _) _) _)

set_option maxHeartbeats 2000000 in
theorem nm_9 {w : World} {b : Nat} {m : PM} {vf vc vk : Value} (_h : ImgAt w b m vf vc vk) {fb fo : Nat} {C : Nat → Value} {f : PF} (hf : FnAt w fb fo C f) (x y : Int) :
    Calls Tryd.prog 41 #[.pointer (some ⟨b, 0, none⟩), .pointer (some ⟨fb, fo, none⟩), .agg #[.int .i64 9, .int .i64 x, .int .i64 y]] w fun e w' => NmPost m f ⟨9, x, y⟩ w e w' := by
  have c2 := cell_al hf.c2
  clear _h hf
  go_enter Tryd.func41, Tryd.ntmps41
  go_wp2_with fail
  go_quiet ((go_at_call 40; exact Calls.quiet_of_same (same_back (below_any _ _ _))))
  go_wp2_with fail
  go_ret
  exact NmPost.mk rfl (Bl.drewN ((Below.refl _ _).alloc (Nat.le_refl _) _) _)

set_option maxHeartbeats 2000000 in
theorem nm_10 {w : World} {b : Nat} {m : PM} {vf vc vk : Value} (_h : ImgAt w b m vf vc vk) {fb fo : Nat} {C : Nat → Value} {f : PF} (hf : FnAt w fb fo C f) (x y : Int) :
    Calls Tryd.prog 41 #[.pointer (some ⟨b, 0, none⟩), .pointer (some ⟨fb, fo, none⟩), .agg #[.int .i64 10, .int .i64 x, .int .i64 y]] w fun e w' => NmPost m f ⟨10, x, y⟩ w e w' := by
  have c2 := cell_al hf.c2
  clear _h hf
  go_enter Tryd.func41, Tryd.ntmps41
  go_wp2_with fail
  go_quiet ((go_at_call 40; exact Calls.quiet_of_same (same_back (below_any _ _ _))))
  go_wp2_with fail
  go_ret
  exact NmPost.mk rfl (Bl.drewN ((Below.refl _ _).alloc (Nat.le_refl _) _) _)

set_option maxHeartbeats 2000000 in
theorem nm_11 {w : World} {b : Nat} {m : PM} {vf vc vk : Value} (_h : ImgAt w b m vf vc vk) {fb fo : Nat} {C : Nat → Value} {f : PF} (_hf : FnAt w fb fo C f) (x y : Int) :
    Calls Tryd.prog 41 #[.pointer (some ⟨b, 0, none⟩), .pointer (some ⟨fb, fo, none⟩), .agg #[.int .i64 11, .int .i64 x, .int .i64 y]] w fun e w' => NmPost m f ⟨11, x, y⟩ w e w' := by
  clear _h _hf
  go_enter Tryd.func41, Tryd.ntmps41
  go_wp2_with (go_at_call 49; refine (few_any _ _).mono ?_; rintro e w' ⟨rfl, rfl⟩)
  go_ret
  exact NmPost.mk rfl ((Below.refl _ _).alloc (Nat.le_refl _) _)

set_option maxHeartbeats 2000000 in
theorem nm_12 {w : World} {b : Nat} {m : PM} {vf vc vk : Value} (_h : ImgAt w b m vf vc vk) {fb fo : Nat} {C : Nat → Value} {f : PF} (_hf : FnAt w fb fo C f) (x y : Int) :
    Calls Tryd.prog 41 #[.pointer (some ⟨b, 0, none⟩), .pointer (some ⟨fb, fo, none⟩), .agg #[.int .i64 12, .int .i64 x, .int .i64 y]] w fun e w' => NmPost m f ⟨12, x, y⟩ w e w' := by
  clear _h _hf
  go_enter Tryd.func41, Tryd.ntmps41
  go_wp2_with (go_at_call 49; refine (few_any _ _).mono ?_; rintro e w' ⟨rfl, rfl⟩)
  go_ret
  exact NmPost.mk rfl ((Below.refl _ _).alloc (Nat.le_refl _) _)

set_option maxHeartbeats 2000000 in
theorem nm_13 {w : World} {b : Nat} {m : PM} {vf vc vk : Value} (_h : ImgAt w b m vf vc vk) {fb fo : Nat} {C : Nat → Value} {f : PF} (_hf : FnAt w fb fo C f) (x y : Int) :
    Calls Tryd.prog 41 #[.pointer (some ⟨b, 0, none⟩), .pointer (some ⟨fb, fo, none⟩), .agg #[.int .i64 13, .int .i64 x, .int .i64 y]] w fun e w' => NmPost m f ⟨13, x, y⟩ w e w' := by
  clear _h _hf
  go_enter Tryd.func41, Tryd.ntmps41
  go_wp2_with (go_at_call 49; refine (few_any _ _).mono ?_; rintro e w' ⟨rfl, rfl⟩)
  go_ret
  exact NmPost.mk rfl ((Below.refl _ _).alloc (Nat.le_refl _) _)

set_option maxHeartbeats 2000000 in
theorem nm_29 {w : World} {b : Nat} {m : PM} {vf vc vk : Value} (_h : ImgAt w b m vf vc vk) {fb fo : Nat} {C : Nat → Value} {f : PF} (_hf : FnAt w fb fo C f) (x y : Int) :
    Calls Tryd.prog 41 #[.pointer (some ⟨b, 0, none⟩), .pointer (some ⟨fb, fo, none⟩), .agg #[.int .i64 29, .int .i64 x, .int .i64 y]] w fun e w' => NmPost m f ⟨29, x, y⟩ w e w' := by
  clear _h _hf
  go_enter Tryd.func41, Tryd.ntmps41
  go_wp2_with (go_at_call 49; refine (few_any _ _).mono ?_; rintro e w' ⟨rfl, rfl⟩)
  go_ret
  exact NmPost.mk rfl ((Below.refl _ _).alloc (Nat.le_refl _) _)

set_option maxHeartbeats 2000000 in
theorem nm_15 {w : World} {b : Nat} {m : PM} {vf vc vk : Value} (_h : ImgAt w b m vf vc vk) {fb fo : Nat} {C : Nat → Value} {f : PF} (hf : FnAt w fb fo C f) (x y : Int) :
    Calls Tryd.prog 41 #[.pointer (some ⟨b, 0, none⟩), .pointer (some ⟨fb, fo, none⟩), .agg #[.int .i64 15, .int .i64 x, .int .i64 y]] w fun e w' => NmPost m f ⟨15, x, y⟩ w e w' := by
  have c3 := hf.c3
  obtain ⟨g, cap, hC, _, _⟩ := hf.fn.2.2.2.1
  rw [hC] at c3
  have c3' := cell_al c3
  clear _h hf hC c3
  go_enter Tryd.func41, Tryd.ntmps41
  go_wp2_with fail
  go_quiet ((go_at_call 40; exact Calls.quiet_of_same (same_back (below_any _ _ _))))
  go_wp2_with fail
  go_ret
  exact NmPost.mk rfl (Bl.drewN ((Below.refl _ _).alloc (Nat.le_refl _) _) _)

set_option maxHeartbeats 2000000 in
theorem nm_16 {w : World} {b : Nat} {m : PM} {vf vc vk : Value} (_h : ImgAt w b m vf vc vk) {fb fo : Nat} {C : Nat → Value} {f : PF} (hf : FnAt w fb fo C f) (x y : Int) :
    Calls Tryd.prog 41 #[.pointer (some ⟨b, 0, none⟩), .pointer (some ⟨fb, fo, none⟩), .agg #[.int .i64 16, .int .i64 x, .int .i64 y]] w fun e w' => NmPost m f ⟨16, x, y⟩ w e w' := by
  have c3 := hf.c3
  obtain ⟨g, cap, hC, _, _⟩ := hf.fn.2.2.2.1
  rw [hC] at c3
  have c3' := cell_al c3
  clear _h hf hC c3
  go_enter Tryd.func41, Tryd.ntmps41
  go_wp2_with fail
  go_quiet ((go_at_call 40; exact Calls.quiet_of_same (same_back (below_any _ _ _))))
  go_wp2_with fail
  go_ret
  exact NmPost.mk rfl (Bl.drewN ((Below.refl _ _).alloc (Nat.le_refl _) _) _)

set_option maxHeartbeats 2000000 in
theorem nm_17 {w : World} {b : Nat} {m : PM} {vf vc vk : Value} (_h : ImgAt w b m vf vc vk) {fb fo : Nat} {C : Nat → Value} {f : PF} (hf : FnAt w fb fo C f) (x y : Int) :
    Calls Tryd.prog 41 #[.pointer (some ⟨b, 0, none⟩), .pointer (some ⟨fb, fo, none⟩), .agg #[.int .i64 17, .int .i64 x, .int .i64 y]] w fun e w' => NmPost m f ⟨17, x, y⟩ w e w' := by
  have c3 := hf.c3
  obtain ⟨g, cap, hC, _, _⟩ := hf.fn.2.2.2.1
  rw [hC] at c3
  have c3' := cell_al c3
  clear _h hf hC c3
  go_enter Tryd.func41, Tryd.ntmps41
  go_wp2_with fail
  go_quiet ((go_at_call 40; exact Calls.quiet_of_same (same_back (below_any _ _ _))))
  go_wp2_with fail
  go_ret
  exact NmPost.mk rfl (Bl.drewN ((Below.refl _ _).alloc (Nat.le_refl _) _) _)

set_option maxHeartbeats 2000000 in
theorem nm_18 {w : World} {b : Nat} {m : PM} {vf vc vk : Value} (_h : ImgAt w b m vf vc vk) {fb fo : Nat} {C : Nat → Value} {f : PF} (hf : FnAt w fb fo C f) (x y : Int) :
    Calls Tryd.prog 41 #[.pointer (some ⟨b, 0, none⟩), .pointer (some ⟨fb, fo, none⟩), .agg #[.int .i64 18, .int .i64 x, .int .i64 y]] w fun e w' => NmPost m f ⟨18, x, y⟩ w e w' := by
  have c3 := hf.c3
  obtain ⟨g, cap, hC, _, _⟩ := hf.fn.2.2.2.1
  rw [hC] at c3
  have c3' := cell_al c3
  clear _h hf hC c3
  go_enter Tryd.func41, Tryd.ntmps41
  go_wp2_with fail
  go_quiet ((go_at_call 40; exact Calls.quiet_of_same (same_back (below_any _ _ _))))
  go_wp2_with fail
  go_ret
  exact NmPost.mk rfl (Bl.drewN ((Below.refl _ _).alloc (Nat.le_refl _) _) _)

set_option maxHeartbeats 2000000 in
theorem nm_32 {w : World} {b : Nat} {m : PM} {vf vc vk : Value} (h : ImgAt w b m vf vc vk) {fb fo : Nat} {C : Nat → Value} {f : PF} (_hf : FnAt w fb fo C f) (x y : Int) :
    Calls Tryd.prog 41 #[.pointer (some ⟨b, 0, none⟩), .pointer (some ⟨fb, fo, none⟩), .agg #[.int .i64 32, .int .i64 x, .int .i64 y]] w fun e w' => NmPost m f ⟨32, x, y⟩ w e w' := by
  have H := hide h
  clear h _hf
  go_enter Tryd.func41, Tryd.ntmps41
  go_wp2_with (go_at_call 50; refine (text_any ((unhide H).alloc _) _).mono ?_; rintro e w' ⟨rfl, rfl⟩)
  go_ret
  exact NmPost.mk rfl ((Below.refl _ _).alloc (Nat.le_refl _) _)

set_option maxHeartbeats 2000000 in
theorem nm_33 {w : World} {b : Nat} {m : PM} {vf vc vk : Value} (h : ImgAt w b m vf vc vk) {fb fo : Nat} {C : Nat → Value} {f : PF} (_hf : FnAt w fb fo C f) (x y : Int) :
    Calls Tryd.prog 41 #[.pointer (some ⟨b, 0, none⟩), .pointer (some ⟨fb, fo, none⟩), .agg #[.int .i64 33, .int .i64 x, .int .i64 y]] w fun e w' => NmPost m f ⟨33, x, y⟩ w e w' := by
  have H := hide h
  clear h _hf
  go_enter Tryd.func41, Tryd.ntmps41
  go_wp2_with (go_at_call 50; refine (text_any ((unhide H).alloc _) _).mono ?_; rintro e w' ⟨rfl, rfl⟩)
  go_ret
  exact NmPost.mk rfl ((Below.refl _ _).alloc (Nat.le_refl _) _)

set_option maxHeartbeats 2000000 in
theorem nm_37 {w : World} {b : Nat} {m : PM} {vf vc vk : Value} (_h : ImgAt w b m vf vc vk) {fb fo : Nat} {C : Nat → Value} {f : PF} (_hf : FnAt w fb fo C f) (x y : Int) :
    Calls Tryd.prog 41 #[.pointer (some ⟨b, 0, none⟩), .pointer (some ⟨fb, fo, none⟩), .agg #[.int .i64 37, .int .i64 x, .int .i64 y]] w fun e w' => NmPost m f ⟨37, x, y⟩ w e w' := by
  clear _h _hf
  go_enter Tryd.func41, Tryd.ntmps41
  go_wp2_with (go_at_call 49; refine (few_any _ _).mono ?_; rintro e w' ⟨rfl, rfl⟩)
  go_ret
  exact NmPost.mk rfl ((Below.refl _ _).alloc (Nat.le_refl _) _)

set_option maxHeartbeats 2000000 in
theorem nm_34 {w : World} {b : Nat} {m : PM} {vf vc vk : Value} (h : ImgAt w b m vf vc vk) {fb fo : Nat} {C : Nat → Value} {f : PF} (_hf : FnAt w fb fo C f) (x y : Int) :
    Calls Tryd.prog 41 #[.pointer (some ⟨b, 0, none⟩), .pointer (some ⟨fb, fo, none⟩), .agg #[.int .i64 34, .int .i64 x, .int .i64 y]] w fun e w' => NmPost m f ⟨34, x, y⟩ w e w' := by
  have H := hide h
  have HD : Hid (nameOk m f.slots f.code.length ⟨34, x, y⟩ = (isText m x && fewB y)) := rfl
  clear h _hf
  cases ht : isText m x with
  | true =>
    go_enter Tryd.func41, Tryd.ntmps41
    go_wp2_with (first | (go_at_call 50; refine (text_any ((unhide H).alloc _) _).mono ?_; rintro e w' ⟨rfl, rfl⟩) | (go_at_call 49; refine (few_any _ _).mono ?_; rintro e w' ⟨rfl, rfl⟩))
    go_ret
    exact NmPost.mk (by rw [unhide HD, ht]; rfl) ((Below.refl _ _).alloc (Nat.le_refl _) _)
  | false =>
    go_enter Tryd.func41, Tryd.ntmps41
    go_wp2_with (first | (go_at_call 50; refine (text_any ((unhide H).alloc _) _).mono ?_; rintro e w' ⟨rfl, rfl⟩))
    go_ret
    exact NmPost.mk (by rw [unhide HD, ht]; rfl) ((Below.refl _ _).alloc (Nat.le_refl _) _)

set_option maxHeartbeats 2000000 in
theorem nm_39 {w : World} {b : Nat} {m : PM} {vf vc vk : Value} (h : ImgAt w b m vf vc vk) {fb fo : Nat} {C : Nat → Value} {f : PF} (_hf : FnAt w fb fo C f) (x y : Int) :
    Calls Tryd.prog 41 #[.pointer (some ⟨b, 0, none⟩), .pointer (some ⟨fb, fo, none⟩), .agg #[.int .i64 39, .int .i64 x, .int .i64 y]] w fun e w' => NmPost m f ⟨39, x, y⟩ w e w' := by
  have H := hide h
  have HD : Hid (nameOk m f.slots f.code.length ⟨39, x, y⟩ = (callB m x && fewB y)) := rfl
  clear h _hf
  cases ht : callB m x with
  | true =>
    go_enter Tryd.func41, Tryd.ntmps41
    go_wp2_with (first | (go_at_call 33; refine (callable_any ((unhide H).alloc _) _).mono ?_; rintro e w' ⟨rfl, rfl⟩) | (go_at_call 49; refine (few_any _ _).mono ?_; rintro e w' ⟨rfl, rfl⟩))
    go_ret
    exact NmPost.mk (by rw [unhide HD, ht]; rfl) ((Below.refl _ _).alloc (Nat.le_refl _) _)
  | false =>
    go_enter Tryd.func41, Tryd.ntmps41
    go_wp2_with (first | (go_at_call 33; refine (callable_any ((unhide H).alloc _) _).mono ?_; rintro e w' ⟨rfl, rfl⟩))
    go_ret
    exact NmPost.mk (by rw [unhide HD, ht]; rfl) ((Below.refl _ _).alloc (Nat.le_refl _) _)
end Go.Proofs.YtcbgcjkcfolcoaaDoor

namespace Go.Proofs.YtcbgcjkcfolcoaaDoor
open Go.RowKit

set_option maxRecDepth 100000 in
set_option maxHeartbeats 2000000 in
theorem nm_36 {w : World} {b : Nat} {m : PM} {vf vc vk : Value} (h : ImgAt w b m vf vc vk) {fb fo : Nat} {C : Nat → Value} {f : PF} (_hf : FnAt w fb fo C f) (x y : Int) :
    Calls Tryd.prog 41 #[.pointer (some ⟨b, 0, none⟩), .pointer (some ⟨fb, fo, none⟩), .agg #[.int .i64 36, .int .i64 x, .int .i64 y]] w fun e w' => NmPost m f ⟨36, x, y⟩ w e w' := by
  have H := hide h
  have HD : Hid (nameOk m f.slots f.code.length ⟨36, x, y⟩ = (belowB x m.classes.length && fewB y)) := rfl
  obtain ⟨R, ⟨g, cap, rfl, _, _⟩, _⟩ := h.img.classes
  have c2 := cell_al h.c2
  clear h _hf
  cases ht : belowB x m.classes.length with
  | true =>
    go_enter Tryd.func41, Tryd.ntmps41
    go_wp2_with fail
    go_quiet ((first | (go_at_call 50; exact Calls.quiet_of_same (same_back (text_is ht (((unhide H).alloc _).drewN _)))) | (go_at_call 40; exact Calls.quiet_of_same (same_back (below_is ht _))) | (go_at_call 49; exact Calls.quiet_of_same (same_back (few_any _ _))) | (go_at_call 33; exact Calls.quiet_of_same (same_back (callable_is ht (((unhide H).alloc _).drewN _))))))
    go_wp2_with fail
    go_ret
    exact NmPost.mk (by rw [unhide HD, ht]; rfl) (Bl.drewN ((Below.refl _ _).alloc (Nat.le_refl _) _) _)
  | false =>
    go_enter Tryd.func41, Tryd.ntmps41
    go_wp2_with fail
    go_quiet ((first | (go_at_call 50; exact Calls.quiet_of_same (same_back (text_is ht (((unhide H).alloc _).drewN _)))) | (go_at_call 40; exact Calls.quiet_of_same (same_back (below_is ht _))) | (go_at_call 49; exact Calls.quiet_of_same (same_back (few_any _ _))) | (go_at_call 33; exact Calls.quiet_of_same (same_back (callable_is ht (((unhide H).alloc _).drewN _))))))
    go_wp2_with fail
    go_ret
    exact NmPost.mk (by rw [unhide HD, ht]; rfl) (Bl.drewN ((Below.refl _ _).alloc (Nat.le_refl _) _) _)

theorem td_eq {y : Int} (h : 0 ≤ y) : y.tdiv 64 = y / 64 := Int.tdiv_eq_ediv_of_nonneg h
theorem wrap_id {y : Int} (h1 : -9223372036854775808 ≤ y) (h2 : y ≤ 9223372036854775807) : IntKind.i64.wrap y = y := by
  rw [IntKind.wrap_i64]; omega
theorem tm_eq {y : Int} (h : 0 ≤ y) : y.tmod 64 = y % 64 := Int.tmod_eq_emod_of_nonneg h

set_option maxRecDepth 100000 in
set_option maxHeartbeats 2000000 in
theorem nm_35 {w : World} {b : Nat} {m : PM} {vf vc vk : Value} (h : ImgAt w b m vf vc vk) {fb fo : Nat} {C : Nat → Value} {f : PF} (_hf : FnAt w fb fo C f) (x y : Int) (hy9 : y ≤ 9223372036854775807) :
    Calls Tryd.prog 41 #[.pointer (some ⟨b, 0, none⟩), .pointer (some ⟨fb, fo, none⟩), .agg #[.int .i64 35, .int .i64 x, .int .i64 y]] w fun e w' => NmPost m f ⟨35, x, y⟩ w e w' := by
  have H := hide h
  have HD : Hid (nameOk m f.slots f.code.length ⟨35, x, y⟩ = (isText m x && decide (0 ≤ y) && belowB (y.tdiv 64) m.classes.length && fewB (y.tmod 64))) := rfl
  obtain ⟨R, ⟨g, cap, rfl, _, _⟩, _⟩ := h.img.classes
  have c2 := cell_al h.c2
  clear h _hf
  cases ht : isText m x with
  | true =>
    by_cases hy : 0 ≤ y
    · have dy : decide (0 ≤ y) = true := by simpa using hy
      have HT := hide (td_eq hy)
      have HM := hide (tm_eq hy)
      have hq0 : 0 ≤ y / 64 := by omega
      have hq1 : y / 64 ≤ y := by omega
      have hm0 : 0 ≤ y % 64 := by omega
      have hm1 : y % 64 < 64 := by omega
      have w1 : IntKind.i64.wrap (y.tdiv 64) = y / 64 := by rw [td_eq hy]; exact wrap_id (by omega) (by omega)
      have w2 : IntKind.i64.wrap (y.tmod 64) = y % 64 := by rw [tm_eq hy]; exact wrap_id (by omega) (by omega)
      cases hb : belowB (y / 64) m.classes.length with
      | true =>
        go_enter Tryd.func41, Tryd.ntmps41
        go_wp2_with fail
        go_quiet ((first | (go_at_call 50; exact Calls.quiet_of_same (same_back (text_is ht (((unhide H).alloc _).drewN _)))) | (go_at_call 40; exact Calls.quiet_of_same (same_back (below_is hb _))) | (go_at_call 49; exact Calls.quiet_of_same (same_back (few_any _ _))) | (go_at_call 33; exact Calls.quiet_of_same (same_back (callable_is ht (((unhide H).alloc _).drewN _))))))
        go_wp2_with fail
        go_ret
        exact NmPost.mk (by rw [unhide HD, ht, dy, unhide HT, hb, unhide HM]; rfl) (Bl.drewN ((Below.refl _ _).alloc (Nat.le_refl _) _) _)
      | false =>
        go_enter Tryd.func41, Tryd.ntmps41
        go_wp2_with fail
        go_quiet ((first | (go_at_call 50; exact Calls.quiet_of_same (same_back (text_is ht (((unhide H).alloc _).drewN _)))) | (go_at_call 40; exact Calls.quiet_of_same (same_back (below_is hb _))) | (go_at_call 49; exact Calls.quiet_of_same (same_back (few_any _ _))) | (go_at_call 33; exact Calls.quiet_of_same (same_back (callable_is ht (((unhide H).alloc _).drewN _))))))
        go_wp2_with fail
        go_ret
        exact NmPost.mk (by rw [unhide HD, ht, dy, unhide HT, hb]; rfl) (Bl.drewN ((Below.refl _ _).alloc (Nat.le_refl _) _) _)
    · have dy : decide (0 ≤ y) = false := by simpa using hy
      go_enter Tryd.func41, Tryd.ntmps41
      go_wp2_with fail
      go_quiet ((first | (go_at_call 50; exact Calls.quiet_of_same (same_back (text_is ht (((unhide H).alloc _).drewN _)))) | (go_at_call 40; exact Calls.quiet_of_same (same_back (below_is hb _))) | (go_at_call 49; exact Calls.quiet_of_same (same_back (few_any _ _))) | (go_at_call 33; exact Calls.quiet_of_same (same_back (callable_is ht (((unhide H).alloc _).drewN _))))))
      go_wp2_with fail
      go_ret
      exact NmPost.mk (by rw [unhide HD, ht, dy]; rfl) (Bl.drewN ((Below.refl _ _).alloc (Nat.le_refl _) _) _)
  | false =>
    go_enter Tryd.func41, Tryd.ntmps41
    go_wp2_with fail
    go_quiet ((first | (go_at_call 50; exact Calls.quiet_of_same (same_back (text_is ht (((unhide H).alloc _).drewN _)))) | (go_at_call 40; exact Calls.quiet_of_same (same_back (below_is hb _))) | (go_at_call 49; exact Calls.quiet_of_same (same_back (few_any _ _))) | (go_at_call 33; exact Calls.quiet_of_same (same_back (callable_is ht (((unhide H).alloc _).drewN _))))))
    go_wp2_with fail
    go_ret
    exact NmPost.mk (by rw [unhide HD, ht]; rfl) (Bl.drewN ((Below.refl _ _).alloc (Nat.le_refl _) _) _)

set_option maxRecDepth 100000 in
set_option maxHeartbeats 2000000 in
theorem nm_38 {w : World} {b : Nat} {m : PM} {vf vc vk : Value} (h : ImgAt w b m vf vc vk) {fb fo : Nat} {C : Nat → Value} {f : PF} (_hf : FnAt w fb fo C f) (x y : Int) :
    Calls Tryd.prog 41 #[.pointer (some ⟨b, 0, none⟩), .pointer (some ⟨fb, fo, none⟩), .agg #[.int .i64 38, .int .i64 x, .int .i64 y]] w fun e w' => NmPost m f ⟨38, x, y⟩ w e w' := by
  have H := hide h
  have HD : Hid (nameOk m f.slots f.code.length ⟨38, x, y⟩ = (callB m x && (y == (funcAt m x).params) && fewB y)) := rfl
  cases ht : callB m x with
  | true =>
    have hx : belowB x m.funcs.length = true := by
      have := ht
      unfold callB at this
      rw [Bool.and_eq_true] at this
      exact this.2
    obtain ⟨hx1, hx2⟩ := belowB_true hx
    obtain ⟨k, rfl⟩ := Int.eq_ofNat_of_zero_le hx1
    obtain ⟨R, ⟨g, cap, rfl, hN, hr⟩, hR⟩ := h.img.funcs
    have hk : m.funcs[k]? = some (m.funcs[k]'(by omega)) := List.getElem?_eq_getElem _
    obtain ⟨gb, go, rfl, hF⟩ := FnAt.of_rows hr (i := k) (by omega) (hR k _ hk)
    have HP : Hid ((funcAt m k).params = (m.funcs[k]'(by omega)).params) := by
      show (funcAt m k).params = _
      simp [funcAt, List.getD, hk]
    have d0 := cell_al h.c0
    have d1 := cell_al hF.c1
    have hN2 := hN
    clear h _hf hF hr hR hk hx hN
    generalize (m.funcs[k]'(by omega)).params = p at *
    generalize hL : m.funcs.length = L at *
    clear hL
    cases he : (y == p) with
    | true =>
      go_enter Tryd.func41, Tryd.ntmps41
      go_wp2_with fail
      go_quiet ((first | (go_at_call 50; exact Calls.quiet_of_same (same_back (text_is ht (((unhide H).alloc _).drewN _)))) | (go_at_call 40; exact Calls.quiet_of_same (same_back (below_is hb _))) | (go_at_call 49; exact Calls.quiet_of_same (same_back (few_any _ _))) | (go_at_call 33; exact Calls.quiet_of_same (same_back (callable_is ht (((unhide H).alloc _).drewN _))))))
      go_wp2_with fail
      go_ret
      exact NmPost.mk (by rw [unhide HD, ht, unhide HP, he]; rfl) (Bl.drewN ((Below.refl _ _).alloc (Nat.le_refl _) _) _)
    | false =>
      go_enter Tryd.func41, Tryd.ntmps41
      go_wp2_with fail
      go_quiet ((first | (go_at_call 50; exact Calls.quiet_of_same (same_back (text_is ht (((unhide H).alloc _).drewN _)))) | (go_at_call 40; exact Calls.quiet_of_same (same_back (below_is hb _))) | (go_at_call 49; exact Calls.quiet_of_same (same_back (few_any _ _))) | (go_at_call 33; exact Calls.quiet_of_same (same_back (callable_is ht (((unhide H).alloc _).drewN _))))))
      go_wp2_with fail
      go_ret
      exact NmPost.mk (by rw [unhide HD, ht, unhide HP, he]; rfl) (Bl.drewN ((Below.refl _ _).alloc (Nat.le_refl _) _) _)
  | false =>
    clear h _hf
    go_enter Tryd.func41, Tryd.ntmps41
    go_wp2_with fail
    go_quiet ((first | (go_at_call 50; exact Calls.quiet_of_same (same_back (text_is ht (((unhide H).alloc _).drewN _)))) | (go_at_call 40; exact Calls.quiet_of_same (same_back (below_is hb _))) | (go_at_call 49; exact Calls.quiet_of_same (same_back (few_any _ _))) | (go_at_call 33; exact Calls.quiet_of_same (same_back (callable_is ht (((unhide H).alloc _).drewN _))))))
    go_wp2_with fail
    go_ret
    exact NmPost.mk (by rw [unhide HD, ht]; rfl) (Bl.drewN ((Below.refl _ _).alloc (Nat.le_refl _) _) _)
end Go.Proofs.YtcbgcjkcfolcoaaDoor

namespace Go.Proofs.YtcbgcjkcfolcoaaDoor
open Go.RowKit

theorem namesOf_out {op : Int} (h : ¬ (1 ≤ op ∧ op ≤ 45)) : namesOf op = 12 := by
  unfold namesOf
  repeat (first | rw [if_neg (by omega)] | rfl)
theorem nameOk_out {m : PM} {s : Int} {n : Nat} {i : PI} (h : ¬ (1 ≤ i.op ∧ i.op ≤ 45)) : nameOk m s n i = false := by
  unfold nameOk
  rw [namesOf_out h]
  rfl

set_option maxHeartbeats 2000000 in
theorem nm_out {w : World} {b : Nat} {fb fo : Nat} {m : PM} {f : PF} (op x y : Int) (h : ¬ (1 ≤ op ∧ op ≤ 45)) :
    Calls Tryd.prog 41 #[.pointer (some ⟨b, 0, none⟩), .pointer (some ⟨fb, fo, none⟩), .agg #[.int .i64 op, .int .i64 x, .int .i64 y]] w fun e w' => NmPost m f ⟨op, x, y⟩ w e w' := by
  have HD := hide (nameOk_out (m := m) (s := f.slots) (n := f.code.length) (i := ⟨op, x, y⟩) h)
  have e2 : (op == 2) = false := beq_eq_false_iff_ne.2 (by omega)
  have e6 : (op == 6) = false := beq_eq_false_iff_ne.2 (by omega)
  have e9 : (op == 9) = false := beq_eq_false_iff_ne.2 (by omega)
  have e7 : (op == 7) = false := beq_eq_false_iff_ne.2 (by omega)
  have e8 : (op == 8) = false := beq_eq_false_iff_ne.2 (by omega)
  have e10 : (op == 10) = false := beq_eq_false_iff_ne.2 (by omega)
  have e11 : (op == 11) = false := beq_eq_false_iff_ne.2 (by omega)
  have e12 : (op == 12) = false := beq_eq_false_iff_ne.2 (by omega)
  have e13 : (op == 13) = false := beq_eq_false_iff_ne.2 (by omega)
  have e29 : (op == 29) = false := beq_eq_false_iff_ne.2 (by omega)
  have e15 : (op == 15) = false := beq_eq_false_iff_ne.2 (by omega)
  have e16 : (op == 16) = false := beq_eq_false_iff_ne.2 (by omega)
  have e17 : (op == 17) = false := beq_eq_false_iff_ne.2 (by omega)
  have e18 : (op == 18) = false := beq_eq_false_iff_ne.2 (by omega)
  have e32 : (op == 32) = false := beq_eq_false_iff_ne.2 (by omega)
  have e33 : (op == 33) = false := beq_eq_false_iff_ne.2 (by omega)
  have e34 : (op == 34) = false := beq_eq_false_iff_ne.2 (by omega)
  have e35 : (op == 35) = false := beq_eq_false_iff_ne.2 (by omega)
  have e36 : (op == 36) = false := beq_eq_false_iff_ne.2 (by omega)
  have e37 : (op == 37) = false := beq_eq_false_iff_ne.2 (by omega)
  have e38 : (op == 38) = false := beq_eq_false_iff_ne.2 (by omega)
  have e39 : (op == 39) = false := beq_eq_false_iff_ne.2 (by omega)
  by_cases h1 : 1 ≤ op
  · have h2 : ¬ op ≤ 45 := by omega
    have d2 : decide (op ≤ 45) = false := by simpa using h2
    clear h h2
    go_enter Tryd.func41, Tryd.ntmps41
    go_wp2_with fail
    go_ret
    exact NmPost.mk (by rw [unhide HD]) ((Below.refl _ _).alloc (Nat.le_refl _) _)
  · have d1 : decide (1 ≤ op) = false := by simpa using h1
    clear h h1
    go_enter Tryd.func41, Tryd.ntmps41
    go_wp2_with fail
    go_ret
    exact NmPost.mk (by rw [unhide HD]) ((Below.refl _ _).alloc (Nat.le_refl _) _)

theorem names_any {w : World} {b : Nat} {m : PM} {vf vc vk : Value} (h : ImgAt w b m vf vc vk) {fb fo : Nat} {C : Nat → Value} {f : PF} (hf : FnAt w fb fo C f) (i : PI) (hy : i.b ≤ 9223372036854775807) :
    Calls Tryd.prog 41 #[.pointer (some ⟨b, 0, none⟩), .pointer (some ⟨fb, fo, none⟩), .agg #[.int .i64 i.op, .int .i64 i.a, .int .i64 i.b]] w fun e w' => NmPost m f i w e w' := by
  obtain ⟨op, x, y⟩ := i
  rcases Decidable.em (1 ≤ op ∧ op ≤ 45) with k | k
  · rcases op_cases op k.1 k.2 with rfl|rfl|rfl|rfl|rfl|rfl|rfl|rfl|rfl|rfl|rfl|rfl|rfl|rfl|rfl|rfl|rfl|rfl|rfl|rfl|rfl|rfl|rfl|rfl|rfl|rfl|rfl|rfl|rfl|rfl|rfl|rfl|rfl|rfl|rfl|rfl|rfl|rfl|rfl|rfl|rfl|rfl|rfl|rfl|rfl
    · exact nm_1 h hf x y
    · exact nm_2 h hf x y
    · exact nm_3 h hf x y
    · exact nm_4 h hf x y
    · exact nm_5 h hf x y
    · exact nm_6 h hf x y
    · exact nm_7 h hf x y
    · exact nm_8 h hf x y
    · exact nm_9 h hf x y
    · exact nm_10 h hf x y
    · exact nm_11 h hf x y
    · exact nm_12 h hf x y
    · exact nm_13 h hf x y
    · exact nm_14 h hf x y
    · exact nm_15 h hf x y
    · exact nm_16 h hf x y
    · exact nm_17 h hf x y
    · exact nm_18 h hf x y
    · exact nm_19 h hf x y
    · exact nm_20 h hf x y
    · exact nm_21 h hf x y
    · exact nm_22 h hf x y
    · exact nm_23 h hf x y
    · exact nm_24 h hf x y
    · exact nm_25 h hf x y
    · exact nm_26 h hf x y
    · exact nm_27 h hf x y
    · exact nm_28 h hf x y
    · exact nm_29 h hf x y
    · exact nm_30 h hf x y
    · exact nm_31 h hf x y
    · exact nm_32 h hf x y
    · exact nm_33 h hf x y
    · exact nm_34 h hf x y
    · exact nm_35 h hf x y hy
    · exact nm_36 h hf x y
    · exact nm_37 h hf x y
    · exact nm_38 h hf x y
    · exact nm_39 h hf x y
    · exact nm_40 h hf x y
    · exact nm_41 h hf x y
    · exact nm_42 h hf x y
    · exact nm_43 h hf x y
    · exact nm_44 h hf x y
    · exact nm_45 h hf x y
  · exact nm_out op x y k
end Go.Proofs.YtcbgcjkcfolcoaaDoor

namespace Go.Proofs.YtcbgcjkcfolcoaaDoor
open Go.RowKit

theorem below_at {n many : Int} {c : Bool} (h : belowB n many = c) (w : World) : Calls Tryd.prog 40 #[.int .i64 n, .int .i64 many] w fun e w' => e = .returned (.bool c) ∧ w' = w := same_back (below_is h w)
theorem span_at {w : World} {b o : Nat} {C : Nat → Value} {f : PF} {fr hi : Int} {c : Bool} (hc : spanOk f.code.length fr hi = c) (h : FnAt w b o C f) :
    Calls Tryd.prog 42 #[.pointer (some ⟨b, o, none⟩), .int .i64 fr, .int .i64 hi] w fun e w' => e = .returned (.bool c) ∧ w' = w := by
  rw [← hc]; exact same_back (span_any h fr hi)

theorem all_take_succ {α : Type} {p : α → Bool} {l : List α} {k : Nat} {x : α} (h : l[k]? = some x) : (l.take (k + 1)).all p = ((l.take k).all p && p x) := by
  obtain ⟨hk, rfl⟩ := List.getElem?_eq_some_iff.1 h
  rw [List.take_succ_eq_append_getElem hk, List.all_append]
  simp
theorem all_of_take {α : Type} {p : α → Bool} {l : List α} {k : Nat} {x : α} (h : l[k]? = some x) (hp : p x = false) : l.all p = false := by
  have hm := List.mem_of_getElem? h
  cases hz : l.all p with
  | false => rfl
  | true =>
    rw [List.all_eq_true.1 hz x hm] at hp
    cases hp

def InB (f : PF) : Prop := ∀ i ∈ f.code, i.b ≤ 9223372036854775807

theorem HandsAt.at {w : World} {g : Option Addr} {n : Nat} {l : List PH} (h : RowsAt w g n 3 (handRow l)) {x : Nat} {i : PH} (hi : l[x]? = some i) (hn : x < n) : ∃ b o, g = some ⟨b, o, none⟩ ∧ w.cell? ⟨b, o + x * 3, none⟩ = some (.int .i64 i.fr) ∧ w.cell? ⟨b, o + x * 3 + 1, none⟩ = some (.int .i64 i.to) ∧ w.cell? ⟨b, o + x * 3 + 2, none⟩ = some (.int .i64 i.tg) := by
  obtain ⟨b, o, h1, h2⟩ := h x hn
  refine ⟨b, o, h1, ?_, ?_, ?_⟩
  · have := h2 0 (by omega); rw [handRow, hi] at this; exact this
  · have := h2 1 (by omega); rw [handRow, hi] at this; exact this
  · have := h2 2 (by omega); rw [handRow, hi] at this; exact this
theorem VarsAt.at {w : World} {g : Option Addr} {n : Nat} {l : List PV} (h : RowsAt w g n 5 (varRow l)) {x : Nat} {i : PV} (hi : l[x]? = some i) (hn : x < n) : ∃ b o, g = some ⟨b, o, none⟩ ∧ w.cell? ⟨b, o + x * 5, none⟩ = some (.string i.name) ∧ w.cell? ⟨b, o + x * 5 + 1, none⟩ = some (.int .i64 i.slot) ∧ w.cell? ⟨b, o + x * 5 + 2, none⟩ = some (.int .i64 i.fr) ∧ w.cell? ⟨b, o + x * 5 + 3, none⟩ = some (.int .i64 i.to) ∧ w.cell? ⟨b, o + x * 5 + 4, none⟩ = some (.bool i.boxed) := by
  obtain ⟨b, o, h1, h2⟩ := h x hn
  refine ⟨b, o, h1, ?_, ?_, ?_, ?_, ?_⟩
  · have := h2 0 (by omega); rw [varRow, hi] at this; exact this
  · have := h2 1 (by omega); rw [varRow, hi] at this; exact this
  · have := h2 2 (by omega); rw [varRow, hi] at this; exact this
  · have := h2 3 (by omega); rw [varRow, hi] at this; exact this
  · have := h2 4 (by omega); rw [varRow, hi] at this; exact this
theorem InstrsAt.row {w : World} {g : Option Addr} {n : Nat} {l : List PI} (h : RowsAt w g n 3 (instrRow l)) {x : Nat} {i : PI} (hi : l[x]? = some i) (hn : x < n) : ∃ b o, g = some ⟨b, o, none⟩ ∧ w.cell? ⟨b, o + x * 3, none⟩ = some (.int .i64 i.op) ∧ w.cell? ⟨b, o + x * 3 + 1, none⟩ = some (.int .i64 i.a) ∧ w.cell? ⟨b, o + x * 3 + 2, none⟩ = some (.int .i64 i.b) := by
  obtain ⟨b, o, h1, h2⟩ := h x hn
  refine ⟨b, o, h1, ?_, ?_, ?_⟩
  · have := h2 0 (by omega); rw [instrRow, hi] at this; exact this
  · have := h2 1 (by omega); rw [instrRow, hi] at this; exact this
  · have := h2 2 (by omega); rw [instrRow, hi] at this; exact this

def RightPost (m : PM) (f : PF) (w : World) (e : Ending) (w' : World) : Prop := e = .returned (.bool (namesOk m f)) ∧ Below w.heap.size w w'
theorem RightPost.mk {m : PM} {f : PF} {w w' : World} {c : Bool} (hc : c = namesOk m f) (h : Below w.heap.size w w') : RightPost m f w (.returned (.bool c)) w' := by
  rw [hc]; exact ⟨rfl, h⟩

set_option maxRecDepth 100000 in
set_option maxHeartbeats 8000000 in
theorem right_any {w : World} {b : Nat} {m : PM} {vf vc vk : Value} (h : ImgAt w b m vf vc vk) {fb fo : Nat} {C : Nat → Value} {f : PF} (hf : FnAt w fb fo C f) (hin : InB f) :
    Calls Tryd.prog 36 #[.pointer (some ⟨b, 0, none⟩), .pointer (some ⟨fb, fo, none⟩)] w fun e w' => RightPost m f w e w' := by
  obtain ⟨gc, capc, hC3, hN3, r3⟩ := hf.fn.2.2.2.1
  obtain ⟨gh, caph, hC4, hN4, r4⟩ := hf.fn.2.2.2.2.1
  obtain ⟨gv, capv, hC5, hN5, r5⟩ := hf.fn.2.2.2.2.2
  have c3 := hf.c3
  have c4 := hf.c4
  have c5 := hf.c5
  rw [hC3] at c3
  rw [hC4] at c4
  rw [hC5] at c5
  have H := hide h
  have HF := hide hf
  have R3 := hide r3
  have R4 := hide r4
  have R5 := hide r5
  have HIN := hide hin
  have HC3 := hide c3
  have HC5 := hide c5
  clear h hf hin r3 r4 r5 hC3 hC4 hC5
  go_enter Tryd.func36, Tryd.ntmps36
  go_wp2_with fail
  go_loopg [16] f.code.length (fun gg i wr => ∃ k : Nat, k ≤ f.code.length ∧ gg = f.code.length - k ∧ i = .int .i64 k ∧ Hid ((f.code.take k).all (nameOk m f.slots f.code.length) = true) ∧ Hid (Below w.heap.size w wr))
  case atStart => exact ⟨0, Nat.zero_le _, rfl, rfl, rfl, Below.refl _ _⟩
  case round =>
    obtain ⟨k, hk, rfl, rfl, HA, HB⟩ := hrel
    by_cases hlt : k < f.code.length
    · have hx : f.code[k]? = some (f.code[k]'hlt) := List.getElem?_eq_getElem _
      generalize (f.code[k]'hlt) = x at *
      obtain ⟨gb, go, rfl, j0, j1, j2⟩ := InstrsAt.row (unhide R3) hx hlt
      have l0 := cellk (unhide HB) j0 (cell_lt j0)
      have l1 := cellk (unhide HB) j1 (cell_lt j1)
      have l2 := cellk (unhide HB) j2 (cell_lt j2)
      have hk2 : (k : Int) < (f.code.length : Int) := by omega
      have HX := hide hx
      clear hx j0 j1 j2 c3 c4 c5
      have hxb := unhide HIN x (List.mem_of_getElem? (unhide HX))
      go_wp2_with fail
      refine (names_any (((unhide H).keep (unhide HB)).alloc _) (((unhide HF).keep (unhide HB)).alloc _) x hxb).mono ?_
      rintro e w2 ⟨rfl, hb2⟩
      have HB2 : Hid (Below w.heap.size w w2) := by
        have hz := (unhide HB).size
        exact ((unhide HB).alloc hz _).trans (hb2.mono (by simp; omega))
      clear hb2
      cases hn : nameOk m f.slots f.code.length x with
      | false =>
        have HE : Hid (namesOk m f = false) := by
          show namesOk m f = false
          unfold namesOk
          rw [all_of_take (unhide HX) hn]
          rfl
        go_wp2_with fail
        go_ret
        exact RightPost.mk (unhide HE).symm (unhide HB2)
      | true =>
        have HA2 : Hid ((f.code.take (k + 1)).all (nameOk m f.slots f.code.length) = true) := by
          show _ = true
          rw [all_take_succ (unhide HX), unhide HA, hn]
          rfl
        go_wp2_with fail
        go_roundg (f.code.length - (k + 1))
        case measure => omega
        case rel => exact ⟨k + 1, by omega, rfl, by go_num, unhide HA2, unhide HB2⟩
    · obtain rfl : k = f.code.length := by omega
      have hff : decide ((f.code.length : Int) < (f.code.length : Int)) = false := by simp
      have HA1 : Hid (f.code.all (nameOk m f.slots f.code.length) = true) := by
        have := unhide HA
        rwa [List.take_length] at this
      have d4 := cellk (unhide HB) c4 (cell_lt c4)
      have d5 := cellk (unhide HB) c5 (cell_lt c5)
      clear c3 c4 c5 HA hlt hk
      go_wp2_with fail
      go_loopg [31] f.hands.length (fun gg i wx => ∃ k : Nat, k ≤ f.hands.length ∧ gg = f.hands.length - k ∧ i = .int .i64 k ∧ Hid ((f.hands.take k).all (handOk f.code.length) = true) ∧ Hid (Below w.heap.size w wx))
      case atStart => exact ⟨0, Nat.zero_le _, rfl, rfl, rfl, unhide HB⟩
      case round =>
        obtain ⟨k, hk, rfl, rfl, HA, HB⟩ := hrel
        by_cases hlt : k < f.hands.length
        · have hx : f.hands[k]? = some (f.hands[k]'hlt) := List.getElem?_eq_getElem _
          generalize (f.hands[k]'hlt) = x at *
          obtain ⟨gb, go, rfl, j0, j1, j2⟩ := HandsAt.at (unhide R4) hx hlt
          have l0 := cellk (unhide HB) j0 (cell_lt j0)
          have l1 := cellk (unhide HB) j1 (cell_lt j1)
          have l2 := cellk (unhide HB) j2 (cell_lt j2)
          have e3 := cell_al (cellk (unhide HB) (unhide HC3) (cell_lt (unhide HC3)))
          have hk2 : (k : Int) < (f.hands.length : Int) := by omega
          have HX := hide hx
          have HBA : ∀ o, Hid (Below w.heap.size w (wr.alloc o)) := fun o => (unhide HB).alloc (unhide HB).size o
          have HFA : ∀ o, Hid (FnAt (wr.alloc o) fb fo C f) := fun o => ((unhide HF).keep (unhide HB)).alloc o
          clear hx j0 j1 j2 d4 d5
          cases hs : spanOk f.code.length x.fr x.to with
          | false =>
            have HE : Hid (namesOk m f = false) := by
              show namesOk m f = false
              unfold namesOk
              rw [all_of_take (unhide HX) (by unfold handOk; rw [hs]; rfl)]
              simp
            go_wp2_with fail
            go_quiet ((first | (go_at_call 42; exact Calls.quiet_of_same (span_at hs ((unhide (HFA _)).drewN _)))))
            go_wp2_with fail
            go_ret
            exact RightPost.mk (unhide HE).symm (Bl.drewN (unhide (HBA _)) _)
          | true =>
            cases hb : belowB x.tg f.code.length with
            | false =>
              have HE : Hid (namesOk m f = false) := by
                show namesOk m f = false
                unfold namesOk
                rw [all_of_take (unhide HX) (by unfold handOk; rw [hs, hb]; rfl)]
                simp
              go_wp2_with fail
              go_quiet ((first | (go_at_call 42; exact Calls.quiet_of_same (span_at hs ((unhide (HFA _)).drewN _))) | (go_at_call 40; exact Calls.quiet_of_same (below_at hb _))))
              go_wp2_with fail
              go_ret
              exact RightPost.mk (unhide HE).symm (Bl.drewN (unhide (HBA _)) _)
            | true =>
              have HA2 : Hid ((f.hands.take (k + 1)).all (handOk f.code.length) = true) := by
                show _ = true
                rw [all_take_succ (unhide HX), unhide HA]
                unfold handOk
                rw [hs, hb]
                rfl
              go_wp2_with fail
              go_quiet ((first | (go_at_call 42; exact Calls.quiet_of_same (span_at hs ((unhide (HFA _)).drewN _))) | (go_at_call 40; exact Calls.quiet_of_same (below_at hb _))))
              go_wp2_with fail
              go_roundg (f.hands.length - (k + 1))
              case measure => omega
              case rel => exact ⟨k + 1, by omega, rfl, by go_num, unhide HA2, Bl.drewN (unhide (HBA _)) _⟩
        · obtain rfl : k = f.hands.length := by omega
          have hff2 : decide ((f.hands.length : Int) < (f.hands.length : Int)) = false := by simp
          have HA3 : Hid (f.hands.all (handOk f.code.length) = true) := by
            have := unhide HA
            rwa [List.take_length] at this
          have d5 := cellk (unhide HB) (unhide HC5) (cell_lt (unhide HC5))
          clear d4 HA hlt hk
          go_wp2_with fail
          go_loopg [59] f.vars.length (fun gg i wx => ∃ k : Nat, k ≤ f.vars.length ∧ gg = f.vars.length - k ∧ i = .int .i64 k ∧ Hid ((f.vars.take k).all (varOk f.slots f.code.length) = true) ∧ Hid (Below w.heap.size w wx))
          case atStart => exact ⟨0, Nat.zero_le _, rfl, rfl, rfl, unhide HB⟩
          case round =>
            obtain ⟨k, hk, rfl, rfl, HA, HB⟩ := hrel
            by_cases hlt : k < f.vars.length
            · have hx : f.vars[k]? = some (f.vars[k]'hlt) := List.getElem?_eq_getElem _
              generalize (f.vars[k]'hlt) = x at *
              obtain ⟨gb, go, rfl, j0, j1, j2, j3, j4⟩ := VarsAt.at (unhide R5) hx hlt
              have l0 := cellk (unhide HB) j0 (cell_lt j0)
              have l1 := cellk (unhide HB) j1 (cell_lt j1)
              have l2 := cellk (unhide HB) j2 (cell_lt j2)
              have l3 := cellk (unhide HB) j3 (cell_lt j3)
              have l4 := cellk (unhide HB) j4 (cell_lt j4)
              have e2 := cell_al (cellk (unhide HB) (unhide HF).c2 (cell_lt (unhide HF).c2))
              have hk2 : (k : Int) < (f.vars.length : Int) := by omega
              have HX := hide hx
              have HBA : ∀ o, Hid (Below w.heap.size w (wr.alloc o)) := fun o => (unhide HB).alloc (unhide HB).size o
              have HFA : ∀ o, Hid (FnAt (wr.alloc o) fb fo C f) := fun o => ((unhide HF).keep (unhide HB)).alloc o
              clear hx j0 j1 j2 j3 j4 d5
              cases hb : belowB x.slot f.slots with
              | false =>
                have HE : Hid (namesOk m f = false) := by
                  show namesOk m f = false
                  unfold namesOk
                  rw [all_of_take (p := varOk f.slots f.code.length) (unhide HX) (by unfold varOk; rw [hb]; rfl)]
                  simp
                go_wp2_with fail
                go_quiet ((first | (go_at_call 40; exact Calls.quiet_of_same (below_at hb _))))
                go_wp2_with fail
                go_ret
                exact RightPost.mk (unhide HE).symm (Bl.drewN (unhide (HBA _)) _)
              | true =>
                cases hs : spanOk f.code.length x.fr x.to with
                | false =>
                  have HE : Hid (namesOk m f = false) := by
                    show namesOk m f = false
                    unfold namesOk
                    rw [all_of_take (p := varOk f.slots f.code.length) (unhide HX) (by unfold varOk; rw [hs, hb]; rfl)]
                    simp
                  go_wp2_with fail
                  go_quiet ((first | (go_at_call 42; exact Calls.quiet_of_same (span_at hs ((unhide (HFA _)).drewN _))) | (go_at_call 40; exact Calls.quiet_of_same (below_at hb _))))
                  go_wp2_with fail
                  go_ret
                  exact RightPost.mk (unhide HE).symm (Bl.drewN (unhide (HBA _)) _)
                | true =>
                  have HA2 : Hid ((f.vars.take (k + 1)).all (varOk f.slots f.code.length) = true) := by
                    show _ = true
                    rw [all_take_succ (unhide HX), unhide HA]
                    unfold varOk
                    rw [hs, hb]
                    rfl
                  go_wp2_with fail
                  go_quiet ((first | (go_at_call 42; exact Calls.quiet_of_same (span_at hs ((unhide (HFA _)).drewN _))) | (go_at_call 40; exact Calls.quiet_of_same (below_at hb _))))
                  go_wp2_with fail
                  go_roundg (f.vars.length - (k + 1))
                  case measure => omega
                  case rel => exact ⟨k + 1, by omega, rfl, by go_num, unhide HA2, Bl.drewN (unhide (HBA _)) _⟩
            · obtain rfl : k = f.vars.length := by omega
              have hff3 : decide ((f.vars.length : Int) < (f.vars.length : Int)) = false := by simp
              have HE : Hid (namesOk m f = true) := by
                show namesOk m f = true
                have := unhide HA
                rw [List.take_length] at this
                unfold namesOk
                rw [unhide HA1, unhide HA3, this]
                rfl
              clear d5 HA hlt hk
              go_wp2_with fail
              go_ret
              exact RightPost.mk (unhide HE).symm (unhide HB)
end Go.Proofs.YtcbgcjkcfolcoaaDoor
