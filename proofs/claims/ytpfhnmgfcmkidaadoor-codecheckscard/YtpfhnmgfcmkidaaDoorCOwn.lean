/-
  Whether an image may be run: both sides say the same.
-/
import Derived.Test.YtpfhnmgfcmkidaaDoorCImage
import Derived.Test.YtpfhnmgfcmkidaaDoorCImg2
import Derived.Test.YtpfhnmgfcmkidaaDoorCPlace
namespace Go.Proofs.YtpfhnmgfcmkidaaDoor
open Go.RowKit

theorem img_all {w : World} {b : Nat} {m : PM} {vf vc vk : Value} (h : ImgAt w b m vf vc vk) (hin : InM m) (hfine : FineAt w) :
    Calls Tryd.prog 8 #[.pointer (some ⟨b, 0, none⟩)] w fun e w' => IPost m w e w' := by
  cases hl : limitOk m with
  | false => exact img_limit h hl
  | true => exact img_any h hl hin hfine

set_option maxRecDepth 100000 in
set_option maxHeartbeats 8000000 in
theorem codeChecks_any {w : World} {m : PM} {vf vc vk : Value} (h : ImgIs w vf vc vk m) (hin : InM m) (hfine : FineAt w) (hT : ErrT w) :
    Calls Tryd.prog 3 #[.agg #[vf, vc, vk]] w fun e w' => e = .returned (.bool true) ∧ Below w.heap.size w w' := by
  have H := hide h
  obtain ⟨RF, ⟨gf, capf, rfl, nf, rf⟩, hRF⟩ := h.funcs
  obtain ⟨gc, capc, rfl, nc, rc⟩ := h.consts
  obtain ⟨RK, ⟨gk, capk, rfl, nk, rk⟩, hRK⟩ := h.classes
  have HFN := hide hfine
  have HT := hide hT
  have HIN := hide hin
  clear h hfine hT rf hRF rc rk hRK hin
  obtain ⟨wm, hwm⟩ : ∃ wm, w.alloc (.cells #[.slice gf m.funcs.length capf, .slice gc m.consts.length capc, .slice gk m.classes.length capk] 26) = wm := ⟨_, rfl⟩
  have HB := hide (show Below w.heap.size w wm by rw [← hwm]; exact (Below.refl _ _).alloc (Nat.le_refl _) _)
  have hkm : wm.heap[w.heap.size]? = some (.cells #[.slice gf m.funcs.length capf, .slice gc m.consts.length capc, .slice gk m.classes.length capk] 26 (0, 0)) := by rw [← hwm]; exact hnew _ _
  have HM := hide (show ImgAt wm w.heap.size m (.slice gf m.funcs.length capf) (.slice gc m.consts.length capc) (.slice gk m.classes.length capk) from ⟨hcell hkm 0, hcell hkm 1, hcell hkm 2, (unhide H).keep (unhide HB)⟩)
  have m0 := (unhide HM).c0
  have m1 := (unhide HM).c1
  have m2 := (unhide HM).c2
  clear hkm
  go_enter Tryd.func3, Tryd.ntmps3
  go_wp2_with fail
  clear m0 m1 m2 hwm
  refine (few_law (unhide HM).img).mono ?_
  rintro e w1 ⟨hb1, c, rfl, hc⟩
  cases c with
  | false =>
    have HB1 := hide ((unhide HB).trans (hb1.mono (unhide HB).size))
    clear hb1 hc
    go_wp2_with fail
    go_ret
    exact ⟨rfl, unhide HB1⟩
  | true =>
    obtain ⟨hF, hK, hL⟩ := hc rfl
    have HB1 := hide ((unhide HB).trans (hb1.mono (unhide HB).size))
    have HM1 := hide ((unhide HM).keep hb1)
    clear hb1 hc
    go_wp2_with fail
    refine (check_any (unhide HM1) (unhide HIN)).mono ?_
    rintro e w2 ⟨hb2, v, n, p, rfl, he, hv⟩
    have HB2 := hide ((unhide HB1).trans (hb2.mono (unhide HB1).size))
    have HM2 := hide ((unhide HM1).keep hb2)
    have HE := hide he
    have HV := hide hv
    clear hb2 he hv
    go_wp2_with fail
    refine (image_any (unhide HM2) hK hF hL).mono ?_
    rintro e w3 ⟨hb3, ib, vf', vc', vk', rfl, hi⟩
    have HB3 := hide ((unhide HB2).trans (hb3.mono (unhide HB2).size))
    have HI := hide hi
    have HE3 := hide ((unhide HE).keep hb3)
    clear hb3 hi
    go_wp2_with fail
    refine (img_all (unhide HI) (unhide HIN) ((unhide HFN).keep (unhide HB3))).mono ?_
    rintro e w4 ⟨hb4, n', p', rfl, hv'⟩
    obtain ⟨rfl, rfl⟩ := (unhide HV).one hv'
    have HB4 := hide ((unhide HB3).trans (hb4.mono (unhide HB3).size))
    have HE4 := hide ((unhide HE3).keep hb4)
    clear hb4 hv'
    go_wp2_with fail
    refine (at_any (unhide HE4) ((unhide HT).keep (unhide HB4)) n p).mono ?_
    rintro e w5 ⟨rfl, hb5⟩
    have HB5 := hide ((unhide HB4).trans (hb5.mono (unhide HB4).size))
    have hnn : ((n == n) && (p == p)) = true := by simp
    rw [hnn]
    clear hb5
    go_wp2_with fail
    refine (check_nil _).mono ?_
    rintro e w6 ⟨rfl, rfl⟩
    go_wp2_with fail
    refine (lawBare_any (n := 7) (p := -1) (Or.inr (Or.inl ⟨rfl, rfl⟩)) ((unhide HT).keep (unhide HB5)) 7).mono ?_
    rintro e w7 ⟨rfl, hb7⟩
    have HB7 := hide ((unhide HB5).trans (hb7.mono (unhide HB5).size))
    clear hb7
    have h77 : (((7 : Int) == 7) && ((-1 : Int) == -1)) = true := by decide
    rw [h77]
    go_wp2_with fail
    go_ret
    exact ⟨rfl, unhide HB7⟩
end Go.Proofs.YtpfhnmgfcmkidaaDoor
