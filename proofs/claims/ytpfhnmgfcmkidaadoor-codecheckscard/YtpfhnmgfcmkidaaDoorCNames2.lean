/-
  Is there what an instruction names? (two)
-/
import Derived.Test.YtpfhnmgfcmkidaaDoorCNames
namespace Go.Proofs.YtpfhnmgfcmkidaaDoor
open Go.RowKit

set_option maxHeartbeats 2000000 in
theorem nm_2 {w : World} {b : Nat} {m : PM} {vf vc vk : Value} (h : ImgAt w b m vf vc vk) {fb fo : Nat} {C : Nat → Value} {f : PF} (_hf : FnAt w fb fo C f) (x y : Int) :
    Calls Tryd.prog 42 #[.pointer (some ⟨b, 0, none⟩), .pointer (some ⟨fb, fo, none⟩), .agg #[.int .i64 2, .int .i64 x, .int .i64 y]] w fun e w' => NmPost m f ⟨2, x, y⟩ w e w' := by
  obtain ⟨g, cap, rfl, _, _⟩ := h.img.consts
  have c1 := cell_al h.c1
  clear h _hf
  go_enter Tryd.func42, Tryd.ntmps42
  go_wp2_with fail
  go_quiet ((go_at_call 41; exact Calls.quiet_of_same (same_back (below_any _ _ _))))
  go_wp2_with fail
  go_ret
  exact NmPost.mk rfl (Bl.drewN ((Below.refl _ _).alloc (Nat.le_refl _) _) _)

set_option maxHeartbeats 2000000 in
theorem nm_6 {w : World} {b : Nat} {m : PM} {vf vc vk : Value} (_h : ImgAt w b m vf vc vk) {fb fo : Nat} {C : Nat → Value} {f : PF} (hf : FnAt w fb fo C f) (x y : Int) :
    Calls Tryd.prog 42 #[.pointer (some ⟨b, 0, none⟩), .pointer (some ⟨fb, fo, none⟩), .agg #[.int .i64 6, .int .i64 x, .int .i64 y]] w fun e w' => NmPost m f ⟨6, x, y⟩ w e w' := by
  have c2 := cell_al hf.c2
  clear _h hf
  go_enter Tryd.func42, Tryd.ntmps42
  go_wp2_with fail
  go_quiet ((go_at_call 41; exact Calls.quiet_of_same (same_back (below_any _ _ _))))
  go_wp2_with fail
  go_ret
  exact NmPost.mk rfl (Bl.drewN ((Below.refl _ _).alloc (Nat.le_refl _) _) _)

set_option maxHeartbeats 2000000 in
theorem nm_7 {w : World} {b : Nat} {m : PM} {vf vc vk : Value} (_h : ImgAt w b m vf vc vk) {fb fo : Nat} {C : Nat → Value} {f : PF} (hf : FnAt w fb fo C f) (x y : Int) :
    Calls Tryd.prog 42 #[.pointer (some ⟨b, 0, none⟩), .pointer (some ⟨fb, fo, none⟩), .agg #[.int .i64 7, .int .i64 x, .int .i64 y]] w fun e w' => NmPost m f ⟨7, x, y⟩ w e w' := by
  have c2 := cell_al hf.c2
  clear _h hf
  go_enter Tryd.func42, Tryd.ntmps42
  go_wp2_with fail
  go_quiet ((go_at_call 41; exact Calls.quiet_of_same (same_back (below_any _ _ _))))
  go_wp2_with fail
  go_ret
  exact NmPost.mk rfl (Bl.drewN ((Below.refl _ _).alloc (Nat.le_refl _) _) _)

set_option maxHeartbeats 2000000 in
theorem nm_8 {w : World} {b : Nat} {m : PM} {vf vc vk : Value} (_h : ImgAt w b m vf vc vk) {fb fo : Nat} {C : Nat → Value} {f : PF} (hf : FnAt w fb fo C f) (x y : Int) :
    Calls Tryd.prog 42 #[.pointer (some ⟨b, 0, none⟩), .pointer (some ⟨fb, fo, none⟩), .agg #[.int .i64 8, .int .i64 x, .int .i64 y]] w fun e w' => NmPost m f ⟨8, x, y⟩ w e w' := by
  have c2 := cell_al hf.c2
  clear _h hf
  go_enter Tryd.func42, Tryd.ntmps42
  go_wp2_with fail
  go_quiet ((go_at_call 41; exact Calls.quiet_of_same (same_back (below_any _ _ _))))
  go_wp2_with fail
  go_ret
  exact NmPost.mk rfl (Bl.drewN ((Below.refl _ _).alloc (Nat.le_refl _) _) _)

set_option maxHeartbeats 2000000 in
theorem nm_9 {w : World} {b : Nat} {m : PM} {vf vc vk : Value} (_h : ImgAt w b m vf vc vk) {fb fo : Nat} {C : Nat → Value} {f : PF} (hf : FnAt w fb fo C f) (x y : Int) :
    Calls Tryd.prog 42 #[.pointer (some ⟨b, 0, none⟩), .pointer (some ⟨fb, fo, none⟩), .agg #[.int .i64 9, .int .i64 x, .int .i64 y]] w fun e w' => NmPost m f ⟨9, x, y⟩ w e w' := by
  have c2 := cell_al hf.c2
  clear _h hf
  go_enter Tryd.func42, Tryd.ntmps42
  go_wp2_with fail
  go_quiet ((go_at_call 41; exact Calls.quiet_of_same (same_back (below_any _ _ _))))
  go_wp2_with fail
  go_ret
  exact NmPost.mk rfl (Bl.drewN ((Below.refl _ _).alloc (Nat.le_refl _) _) _)

set_option maxHeartbeats 2000000 in
theorem nm_10 {w : World} {b : Nat} {m : PM} {vf vc vk : Value} (_h : ImgAt w b m vf vc vk) {fb fo : Nat} {C : Nat → Value} {f : PF} (hf : FnAt w fb fo C f) (x y : Int) :
    Calls Tryd.prog 42 #[.pointer (some ⟨b, 0, none⟩), .pointer (some ⟨fb, fo, none⟩), .agg #[.int .i64 10, .int .i64 x, .int .i64 y]] w fun e w' => NmPost m f ⟨10, x, y⟩ w e w' := by
  have c2 := cell_al hf.c2
  clear _h hf
  go_enter Tryd.func42, Tryd.ntmps42
  go_wp2_with fail
  go_quiet ((go_at_call 41; exact Calls.quiet_of_same (same_back (below_any _ _ _))))
  go_wp2_with fail
  go_ret
  exact NmPost.mk rfl (Bl.drewN ((Below.refl _ _).alloc (Nat.le_refl _) _) _)

set_option maxHeartbeats 2000000 in
theorem nm_11 {w : World} {b : Nat} {m : PM} {vf vc vk : Value} (_h : ImgAt w b m vf vc vk) {fb fo : Nat} {C : Nat → Value} {f : PF} (_hf : FnAt w fb fo C f) (x y : Int) :
    Calls Tryd.prog 42 #[.pointer (some ⟨b, 0, none⟩), .pointer (some ⟨fb, fo, none⟩), .agg #[.int .i64 11, .int .i64 x, .int .i64 y]] w fun e w' => NmPost m f ⟨11, x, y⟩ w e w' := by
  clear _h _hf
  go_enter Tryd.func42, Tryd.ntmps42
  go_wp2_with (go_at_call 62; refine (few_any _ _).mono ?_; rintro e w' ⟨rfl, rfl⟩)
  go_ret
  exact NmPost.mk rfl ((Below.refl _ _).alloc (Nat.le_refl _) _)

set_option maxHeartbeats 2000000 in
theorem nm_12 {w : World} {b : Nat} {m : PM} {vf vc vk : Value} (_h : ImgAt w b m vf vc vk) {fb fo : Nat} {C : Nat → Value} {f : PF} (_hf : FnAt w fb fo C f) (x y : Int) :
    Calls Tryd.prog 42 #[.pointer (some ⟨b, 0, none⟩), .pointer (some ⟨fb, fo, none⟩), .agg #[.int .i64 12, .int .i64 x, .int .i64 y]] w fun e w' => NmPost m f ⟨12, x, y⟩ w e w' := by
  clear _h _hf
  go_enter Tryd.func42, Tryd.ntmps42
  go_wp2_with (go_at_call 62; refine (few_any _ _).mono ?_; rintro e w' ⟨rfl, rfl⟩)
  go_ret
  exact NmPost.mk rfl ((Below.refl _ _).alloc (Nat.le_refl _) _)

set_option maxHeartbeats 2000000 in
theorem nm_13 {w : World} {b : Nat} {m : PM} {vf vc vk : Value} (_h : ImgAt w b m vf vc vk) {fb fo : Nat} {C : Nat → Value} {f : PF} (_hf : FnAt w fb fo C f) (x y : Int) :
    Calls Tryd.prog 42 #[.pointer (some ⟨b, 0, none⟩), .pointer (some ⟨fb, fo, none⟩), .agg #[.int .i64 13, .int .i64 x, .int .i64 y]] w fun e w' => NmPost m f ⟨13, x, y⟩ w e w' := by
  clear _h _hf
  go_enter Tryd.func42, Tryd.ntmps42
  go_wp2_with (go_at_call 62; refine (few_any _ _).mono ?_; rintro e w' ⟨rfl, rfl⟩)
  go_ret
  exact NmPost.mk rfl ((Below.refl _ _).alloc (Nat.le_refl _) _)

set_option maxHeartbeats 2000000 in
theorem nm_29 {w : World} {b : Nat} {m : PM} {vf vc vk : Value} (_h : ImgAt w b m vf vc vk) {fb fo : Nat} {C : Nat → Value} {f : PF} (_hf : FnAt w fb fo C f) (x y : Int) :
    Calls Tryd.prog 42 #[.pointer (some ⟨b, 0, none⟩), .pointer (some ⟨fb, fo, none⟩), .agg #[.int .i64 29, .int .i64 x, .int .i64 y]] w fun e w' => NmPost m f ⟨29, x, y⟩ w e w' := by
  clear _h _hf
  go_enter Tryd.func42, Tryd.ntmps42
  go_wp2_with (go_at_call 62; refine (few_any _ _).mono ?_; rintro e w' ⟨rfl, rfl⟩)
  go_ret
  exact NmPost.mk rfl ((Below.refl _ _).alloc (Nat.le_refl _) _)

set_option maxHeartbeats 2000000 in
theorem nm_15 {w : World} {b : Nat} {m : PM} {vf vc vk : Value} (_h : ImgAt w b m vf vc vk) {fb fo : Nat} {C : Nat → Value} {f : PF} (hf : FnAt w fb fo C f) (x y : Int) :
    Calls Tryd.prog 42 #[.pointer (some ⟨b, 0, none⟩), .pointer (some ⟨fb, fo, none⟩), .agg #[.int .i64 15, .int .i64 x, .int .i64 y]] w fun e w' => NmPost m f ⟨15, x, y⟩ w e w' := by
  have c3 := hf.c3
  obtain ⟨g, cap, hC, _, _⟩ := hf.fn.2.2.2.1
  rw [hC] at c3
  have c3' := cell_al c3
  clear _h hf hC c3
  go_enter Tryd.func42, Tryd.ntmps42
  go_wp2_with fail
  go_quiet ((go_at_call 41; exact Calls.quiet_of_same (same_back (below_any _ _ _))))
  go_wp2_with fail
  go_ret
  exact NmPost.mk rfl (Bl.drewN ((Below.refl _ _).alloc (Nat.le_refl _) _) _)

set_option maxHeartbeats 2000000 in
theorem nm_16 {w : World} {b : Nat} {m : PM} {vf vc vk : Value} (_h : ImgAt w b m vf vc vk) {fb fo : Nat} {C : Nat → Value} {f : PF} (hf : FnAt w fb fo C f) (x y : Int) :
    Calls Tryd.prog 42 #[.pointer (some ⟨b, 0, none⟩), .pointer (some ⟨fb, fo, none⟩), .agg #[.int .i64 16, .int .i64 x, .int .i64 y]] w fun e w' => NmPost m f ⟨16, x, y⟩ w e w' := by
  have c3 := hf.c3
  obtain ⟨g, cap, hC, _, _⟩ := hf.fn.2.2.2.1
  rw [hC] at c3
  have c3' := cell_al c3
  clear _h hf hC c3
  go_enter Tryd.func42, Tryd.ntmps42
  go_wp2_with fail
  go_quiet ((go_at_call 41; exact Calls.quiet_of_same (same_back (below_any _ _ _))))
  go_wp2_with fail
  go_ret
  exact NmPost.mk rfl (Bl.drewN ((Below.refl _ _).alloc (Nat.le_refl _) _) _)

set_option maxHeartbeats 2000000 in
theorem nm_17 {w : World} {b : Nat} {m : PM} {vf vc vk : Value} (_h : ImgAt w b m vf vc vk) {fb fo : Nat} {C : Nat → Value} {f : PF} (hf : FnAt w fb fo C f) (x y : Int) :
    Calls Tryd.prog 42 #[.pointer (some ⟨b, 0, none⟩), .pointer (some ⟨fb, fo, none⟩), .agg #[.int .i64 17, .int .i64 x, .int .i64 y]] w fun e w' => NmPost m f ⟨17, x, y⟩ w e w' := by
  have c3 := hf.c3
  obtain ⟨g, cap, hC, _, _⟩ := hf.fn.2.2.2.1
  rw [hC] at c3
  have c3' := cell_al c3
  clear _h hf hC c3
  go_enter Tryd.func42, Tryd.ntmps42
  go_wp2_with fail
  go_quiet ((go_at_call 41; exact Calls.quiet_of_same (same_back (below_any _ _ _))))
  go_wp2_with fail
  go_ret
  exact NmPost.mk rfl (Bl.drewN ((Below.refl _ _).alloc (Nat.le_refl _) _) _)

set_option maxHeartbeats 2000000 in
theorem nm_18 {w : World} {b : Nat} {m : PM} {vf vc vk : Value} (_h : ImgAt w b m vf vc vk) {fb fo : Nat} {C : Nat → Value} {f : PF} (hf : FnAt w fb fo C f) (x y : Int) :
    Calls Tryd.prog 42 #[.pointer (some ⟨b, 0, none⟩), .pointer (some ⟨fb, fo, none⟩), .agg #[.int .i64 18, .int .i64 x, .int .i64 y]] w fun e w' => NmPost m f ⟨18, x, y⟩ w e w' := by
  have c3 := hf.c3
  obtain ⟨g, cap, hC, _, _⟩ := hf.fn.2.2.2.1
  rw [hC] at c3
  have c3' := cell_al c3
  clear _h hf hC c3
  go_enter Tryd.func42, Tryd.ntmps42
  go_wp2_with fail
  go_quiet ((go_at_call 41; exact Calls.quiet_of_same (same_back (below_any _ _ _))))
  go_wp2_with fail
  go_ret
  exact NmPost.mk rfl (Bl.drewN ((Below.refl _ _).alloc (Nat.le_refl _) _) _)

set_option maxHeartbeats 2000000 in
theorem nm_32 {w : World} {b : Nat} {m : PM} {vf vc vk : Value} (h : ImgAt w b m vf vc vk) {fb fo : Nat} {C : Nat → Value} {f : PF} (_hf : FnAt w fb fo C f) (x y : Int) :
    Calls Tryd.prog 42 #[.pointer (some ⟨b, 0, none⟩), .pointer (some ⟨fb, fo, none⟩), .agg #[.int .i64 32, .int .i64 x, .int .i64 y]] w fun e w' => NmPost m f ⟨32, x, y⟩ w e w' := by
  have H := hide h
  clear h _hf
  go_enter Tryd.func42, Tryd.ntmps42
  go_wp2_with (go_at_call 63; refine (text_any ((unhide H).alloc _) _).mono ?_; rintro e w' ⟨rfl, rfl⟩)
  go_ret
  exact NmPost.mk rfl ((Below.refl _ _).alloc (Nat.le_refl _) _)

set_option maxHeartbeats 2000000 in
theorem nm_33 {w : World} {b : Nat} {m : PM} {vf vc vk : Value} (h : ImgAt w b m vf vc vk) {fb fo : Nat} {C : Nat → Value} {f : PF} (_hf : FnAt w fb fo C f) (x y : Int) :
    Calls Tryd.prog 42 #[.pointer (some ⟨b, 0, none⟩), .pointer (some ⟨fb, fo, none⟩), .agg #[.int .i64 33, .int .i64 x, .int .i64 y]] w fun e w' => NmPost m f ⟨33, x, y⟩ w e w' := by
  have H := hide h
  clear h _hf
  go_enter Tryd.func42, Tryd.ntmps42
  go_wp2_with (go_at_call 63; refine (text_any ((unhide H).alloc _) _).mono ?_; rintro e w' ⟨rfl, rfl⟩)
  go_ret
  exact NmPost.mk rfl ((Below.refl _ _).alloc (Nat.le_refl _) _)

set_option maxHeartbeats 2000000 in
theorem nm_37 {w : World} {b : Nat} {m : PM} {vf vc vk : Value} (_h : ImgAt w b m vf vc vk) {fb fo : Nat} {C : Nat → Value} {f : PF} (_hf : FnAt w fb fo C f) (x y : Int) :
    Calls Tryd.prog 42 #[.pointer (some ⟨b, 0, none⟩), .pointer (some ⟨fb, fo, none⟩), .agg #[.int .i64 37, .int .i64 x, .int .i64 y]] w fun e w' => NmPost m f ⟨37, x, y⟩ w e w' := by
  clear _h _hf
  go_enter Tryd.func42, Tryd.ntmps42
  go_wp2_with (go_at_call 62; refine (few_any _ _).mono ?_; rintro e w' ⟨rfl, rfl⟩)
  go_ret
  exact NmPost.mk rfl ((Below.refl _ _).alloc (Nat.le_refl _) _)

set_option maxHeartbeats 2000000 in
theorem nm_34 {w : World} {b : Nat} {m : PM} {vf vc vk : Value} (h : ImgAt w b m vf vc vk) {fb fo : Nat} {C : Nat → Value} {f : PF} (_hf : FnAt w fb fo C f) (x y : Int) :
    Calls Tryd.prog 42 #[.pointer (some ⟨b, 0, none⟩), .pointer (some ⟨fb, fo, none⟩), .agg #[.int .i64 34, .int .i64 x, .int .i64 y]] w fun e w' => NmPost m f ⟨34, x, y⟩ w e w' := by
  have H := hide h
  have HD : Hid (nameOk m f.slots f.code.length ⟨34, x, y⟩ = (isText m x && fewB y)) := rfl
  clear h _hf
  cases ht : isText m x with
  | true =>
    go_enter Tryd.func42, Tryd.ntmps42
    go_wp2_with (first | (go_at_call 63; refine (text_any ((unhide H).alloc _) _).mono ?_; rintro e w' ⟨rfl, rfl⟩) | (go_at_call 62; refine (few_any _ _).mono ?_; rintro e w' ⟨rfl, rfl⟩))
    go_ret
    exact NmPost.mk (by rw [unhide HD, ht]; rfl) ((Below.refl _ _).alloc (Nat.le_refl _) _)
  | false =>
    go_enter Tryd.func42, Tryd.ntmps42
    go_wp2_with (first | (go_at_call 63; refine (text_any ((unhide H).alloc _) _).mono ?_; rintro e w' ⟨rfl, rfl⟩))
    go_ret
    exact NmPost.mk (by rw [unhide HD, ht]; rfl) ((Below.refl _ _).alloc (Nat.le_refl _) _)

set_option maxHeartbeats 2000000 in
theorem nm_39 {w : World} {b : Nat} {m : PM} {vf vc vk : Value} (h : ImgAt w b m vf vc vk) {fb fo : Nat} {C : Nat → Value} {f : PF} (_hf : FnAt w fb fo C f) (x y : Int) :
    Calls Tryd.prog 42 #[.pointer (some ⟨b, 0, none⟩), .pointer (some ⟨fb, fo, none⟩), .agg #[.int .i64 39, .int .i64 x, .int .i64 y]] w fun e w' => NmPost m f ⟨39, x, y⟩ w e w' := by
  have H := hide h
  have HD : Hid (nameOk m f.slots f.code.length ⟨39, x, y⟩ = (callB m x && fewB y)) := rfl
  clear h _hf
  cases ht : callB m x with
  | true =>
    go_enter Tryd.func42, Tryd.ntmps42
    go_wp2_with (first | (go_at_call 25; refine (callable_any ((unhide H).alloc _) _).mono ?_; rintro e w' ⟨rfl, rfl⟩) | (go_at_call 62; refine (few_any _ _).mono ?_; rintro e w' ⟨rfl, rfl⟩))
    go_ret
    exact NmPost.mk (by rw [unhide HD, ht]; rfl) ((Below.refl _ _).alloc (Nat.le_refl _) _)
  | false =>
    go_enter Tryd.func42, Tryd.ntmps42
    go_wp2_with (first | (go_at_call 25; refine (callable_any ((unhide H).alloc _) _).mono ?_; rintro e w' ⟨rfl, rfl⟩))
    go_ret
    exact NmPost.mk (by rw [unhide HD, ht]; rfl) ((Below.refl _ _).alloc (Nat.le_refl _) _)
end Go.Proofs.YtpfhnmgfcmkidaaDoor
