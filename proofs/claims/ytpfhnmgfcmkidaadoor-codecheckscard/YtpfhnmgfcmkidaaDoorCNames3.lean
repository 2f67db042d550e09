/-
  Is there what an instruction names? (three)
-/
import Derived.Test.YtpfhnmgfcmkidaaDoorCNames
namespace Go.Proofs.YtpfhnmgfcmkidaaDoor
open Go.RowKit

set_option maxRecDepth 100000 in
set_option maxHeartbeats 2000000 in
theorem nm_36 {w : World} {b : Nat} {m : PM} {vf vc vk : Value} (h : ImgAt w b m vf vc vk) {fb fo : Nat} {C : Nat → Value} {f : PF} (_hf : FnAt w fb fo C f) (x y : Int) :
    Calls Tryd.prog 42 #[.pointer (some ⟨b, 0, none⟩), .pointer (some ⟨fb, fo, none⟩), .agg #[.int .i64 36, .int .i64 x, .int .i64 y]] w fun e w' => NmPost m f ⟨36, x, y⟩ w e w' := by
  have H := hide h
  have HD : Hid (nameOk m f.slots f.code.length ⟨36, x, y⟩ = (belowB x m.classes.length && fewB y)) := rfl
  obtain ⟨R, ⟨g, cap, rfl, _, _⟩, _⟩ := h.img.classes
  have c2 := cell_al h.c2
  clear h _hf
  cases ht : belowB x m.classes.length with
  | true =>
    go_enter Tryd.func42, Tryd.ntmps42
    go_wp2_with fail
    go_quiet ((first | (go_at_call 63; exact Calls.quiet_of_same (same_back (text_is ht (((unhide H).alloc _).drewN _)))) | (go_at_call 41; exact Calls.quiet_of_same (same_back (below_is ht _))) | (go_at_call 62; exact Calls.quiet_of_same (same_back (few_any _ _))) | (go_at_call 25; exact Calls.quiet_of_same (same_back (callable_is ht (((unhide H).alloc _).drewN _))))))
    go_wp2_with fail
    go_ret
    exact NmPost.mk (by rw [unhide HD, ht]; rfl) (Bl.drewN ((Below.refl _ _).alloc (Nat.le_refl _) _) _)
  | false =>
    go_enter Tryd.func42, Tryd.ntmps42
    go_wp2_with fail
    go_quiet ((first | (go_at_call 63; exact Calls.quiet_of_same (same_back (text_is ht (((unhide H).alloc _).drewN _)))) | (go_at_call 41; exact Calls.quiet_of_same (same_back (below_is ht _))) | (go_at_call 62; exact Calls.quiet_of_same (same_back (few_any _ _))) | (go_at_call 25; exact Calls.quiet_of_same (same_back (callable_is ht (((unhide H).alloc _).drewN _))))))
    go_wp2_with fail
    go_ret
    exact NmPost.mk (by rw [unhide HD, ht]; rfl) (Bl.drewN ((Below.refl _ _).alloc (Nat.le_refl _) _) _)

theorem td_eq {y : Int} (h : 0 ≤ y) : y.tdiv 64 = y / 64 := Int.tdiv_eq_ediv_of_nonneg h
theorem wrap_id {y : Int} (h1 : -9223372036854775808 ≤ y) (h2 : y ≤ 9223372036854775807) : IntKind.i64.wrap y = y := by
  rw [IntKind.wrap_i64]; omega
theorem tm_eq {y : Int} (h : 0 ≤ y) : y.tmod 64 = y % 64 := Int.tmod_eq_emod_of_nonneg h

set_option maxRecDepth 100000 in
set_option maxHeartbeats 2000000 in
theorem nm_35 {w : World} {b : Nat} {m : PM} {vf vc vk : Value} (h : ImgAt w b m vf vc vk) {fb fo : Nat} {C : Nat → Value} {f : PF} (_hf : FnAt w fb fo C f) (x y : Int) (hy9 : y ≤ 9223372036854775807) :
    Calls Tryd.prog 42 #[.pointer (some ⟨b, 0, none⟩), .pointer (some ⟨fb, fo, none⟩), .agg #[.int .i64 35, .int .i64 x, .int .i64 y]] w fun e w' => NmPost m f ⟨35, x, y⟩ w e w' := by
  have H := hide h
  have HD : Hid (nameOk m f.slots f.code.length ⟨35, x, y⟩ = (isText m x && decide (0 ≤ y) && belowB (y.tdiv 64) m.classes.length && fewB (y.tmod 64))) := rfl
  obtain ⟨R, ⟨g, cap, rfl, _, _⟩, _⟩ := h.img.classes
  have c2 := cell_al h.c2
  clear h _hf
  cases ht : isText m x with
  | true =>
    by_cases hy : 0 ≤ y
    · have dy : decide (0 ≤ y) = true := by simpa using hy
      have HT := hide (td_eq hy)
      have HM := hide (tm_eq hy)
      have hq0 : 0 ≤ y / 64 := by omega
      have hq1 : y / 64 ≤ y := by omega
      have hm0 : 0 ≤ y % 64 := by omega
      have hm1 : y % 64 < 64 := by omega
      have w1 : IntKind.i64.wrap (y.tdiv 64) = y / 64 := by rw [td_eq hy]; exact wrap_id (by omega) (by omega)
      have w2 : IntKind.i64.wrap (y.tmod 64) = y % 64 := by rw [tm_eq hy]; exact wrap_id (by omega) (by omega)
      cases hb : belowB (y / 64) m.classes.length with
      | true =>
        go_enter Tryd.func42, Tryd.ntmps42
        go_wp2_with fail
        go_quiet ((first | (go_at_call 63; exact Calls.quiet_of_same (same_back (text_is ht (((unhide H).alloc _).drewN _)))) | (go_at_call 41; exact Calls.quiet_of_same (same_back (below_is hb _))) | (go_at_call 62; exact Calls.quiet_of_same (same_back (few_any _ _))) | (go_at_call 25; exact Calls.quiet_of_same (same_back (callable_is ht (((unhide H).alloc _).drewN _))))))
        go_wp2_with fail
        go_ret
        exact NmPost.mk (by rw [unhide HD, ht, dy, unhide HT, hb, unhide HM]; rfl) (Bl.drewN ((Below.refl _ _).alloc (Nat.le_refl _) _) _)
      | false =>
        go_enter Tryd.func42, Tryd.ntmps42
        go_wp2_with fail
        go_quiet ((first | (go_at_call 63; exact Calls.quiet_of_same (same_back (text_is ht (((unhide H).alloc _).drewN _)))) | (go_at_call 41; exact Calls.quiet_of_same (same_back (below_is hb _))) | (go_at_call 62; exact Calls.quiet_of_same (same_back (few_any _ _))) | (go_at_call 25; exact Calls.quiet_of_same (same_back (callable_is ht (((unhide H).alloc _).drewN _))))))
        go_wp2_with fail
        go_ret
        exact NmPost.mk (by rw [unhide HD, ht, dy, unhide HT, hb]; rfl) (Bl.drewN ((Below.refl _ _).alloc (Nat.le_refl _) _) _)
    · have dy : decide (0 ≤ y) = false := by simpa using hy
      go_enter Tryd.func42, Tryd.ntmps42
      go_wp2_with fail
      go_quiet ((first | (go_at_call 63; exact Calls.quiet_of_same (same_back (text_is ht (((unhide H).alloc _).drewN _)))) | (go_at_call 41; exact Calls.quiet_of_same (same_back (below_is hb _))) | (go_at_call 62; exact Calls.quiet_of_same (same_back (few_any _ _))) | (go_at_call 25; exact Calls.quiet_of_same (same_back (callable_is ht (((unhide H).alloc _).drewN _))))))
      go_wp2_with fail
      go_ret
      exact NmPost.mk (by rw [unhide HD, ht, dy]; rfl) (Bl.drewN ((Below.refl _ _).alloc (Nat.le_refl _) _) _)
  | false =>
    go_enter Tryd.func42, Tryd.ntmps42
    go_wp2_with fail
    go_quiet ((first | (go_at_call 63; exact Calls.quiet_of_same (same_back (text_is ht (((unhide H).alloc _).drewN _)))) | (go_at_call 41; exact Calls.quiet_of_same (same_back (below_is hb _))) | (go_at_call 62; exact Calls.quiet_of_same (same_back (few_any _ _))) | (go_at_call 25; exact Calls.quiet_of_same (same_back (callable_is ht (((unhide H).alloc _).drewN _))))))
    go_wp2_with fail
    go_ret
    exact NmPost.mk (by rw [unhide HD, ht]; rfl) (Bl.drewN ((Below.refl _ _).alloc (Nat.le_refl _) _) _)

set_option maxRecDepth 100000 in
set_option maxHeartbeats 2000000 in
theorem nm_38 {w : World} {b : Nat} {m : PM} {vf vc vk : Value} (h : ImgAt w b m vf vc vk) {fb fo : Nat} {C : Nat → Value} {f : PF} (_hf : FnAt w fb fo C f) (x y : Int) :
    Calls Tryd.prog 42 #[.pointer (some ⟨b, 0, none⟩), .pointer (some ⟨fb, fo, none⟩), .agg #[.int .i64 38, .int .i64 x, .int .i64 y]] w fun e w' => NmPost m f ⟨38, x, y⟩ w e w' := by
  have H := hide h
  have HD : Hid (nameOk m f.slots f.code.length ⟨38, x, y⟩ = (callB m x && (y == (funcAt m x).params) && fewB y)) := rfl
  cases ht : callB m x with
  | true =>
    have hx : belowB x m.funcs.length = true := by
      have := ht
      unfold callB at this
      rw [Bool.and_eq_true] at this
      exact this.2
    obtain ⟨hx1, hx2⟩ := belowB_true hx
    obtain ⟨k, rfl⟩ := Int.eq_ofNat_of_zero_le hx1
    obtain ⟨R, ⟨g, cap, rfl, hN, hr⟩, hR⟩ := h.img.funcs
    have hk : m.funcs[k]? = some (m.funcs[k]'(by omega)) := List.getElem?_eq_getElem _
    obtain ⟨gb, go, rfl, hF⟩ := FnAt.of_rows hr (i := k) (by omega) (hR k _ hk)
    have HP : Hid ((funcAt m k).params = (m.funcs[k]'(by omega)).params) := by
      show (funcAt m k).params = _
      simp [funcAt, List.getD, hk]
    have d0 := cell_al h.c0
    have d1 := cell_al hF.c1
    have hN2 := hN
    clear h _hf hF hr hR hk hx hN
    generalize (m.funcs[k]'(by omega)).params = p at *
    generalize hL : m.funcs.length = L at *
    clear hL
    cases he : (y == p) with
    | true =>
      go_enter Tryd.func42, Tryd.ntmps42
      go_wp2_with fail
      go_quiet ((first | (go_at_call 63; exact Calls.quiet_of_same (same_back (text_is ht (((unhide H).alloc _).drewN _)))) | (go_at_call 41; exact Calls.quiet_of_same (same_back (below_is hb _))) | (go_at_call 62; exact Calls.quiet_of_same (same_back (few_any _ _))) | (go_at_call 25; exact Calls.quiet_of_same (same_back (callable_is ht (((unhide H).alloc _).drewN _))))))
      go_wp2_with fail
      go_ret
      exact NmPost.mk (by rw [unhide HD, ht, unhide HP, he]; rfl) (Bl.drewN ((Below.refl _ _).alloc (Nat.le_refl _) _) _)
    | false =>
      go_enter Tryd.func42, Tryd.ntmps42
      go_wp2_with fail
      go_quiet ((first | (go_at_call 63; exact Calls.quiet_of_same (same_back (text_is ht (((unhide H).alloc _).drewN _)))) | (go_at_call 41; exact Calls.quiet_of_same (same_back (below_is hb _))) | (go_at_call 62; exact Calls.quiet_of_same (same_back (few_any _ _))) | (go_at_call 25; exact Calls.quiet_of_same (same_back (callable_is ht (((unhide H).alloc _).drewN _))))))
      go_wp2_with fail
      go_ret
      exact NmPost.mk (by rw [unhide HD, ht, unhide HP, he]; rfl) (Bl.drewN ((Below.refl _ _).alloc (Nat.le_refl _) _) _)
  | false =>
    clear h _hf
    go_enter Tryd.func42, Tryd.ntmps42
    go_wp2_with fail
    go_quiet ((first | (go_at_call 63; exact Calls.quiet_of_same (same_back (text_is ht (((unhide H).alloc _).drewN _)))) | (go_at_call 41; exact Calls.quiet_of_same (same_back (below_is hb _))) | (go_at_call 62; exact Calls.quiet_of_same (same_back (few_any _ _))) | (go_at_call 25; exact Calls.quiet_of_same (same_back (callable_is ht (((unhide H).alloc _).drewN _))))))
    go_wp2_with fail
    go_ret
    exact NmPost.mk (by rw [unhide HD, ht]; rfl) (Bl.drewN ((Below.refl _ _).alloc (Nat.le_refl _) _) _)
end Go.Proofs.YtpfhnmgfcmkidaaDoor
