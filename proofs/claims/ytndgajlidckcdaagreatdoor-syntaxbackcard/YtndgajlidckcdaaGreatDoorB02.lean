/-
  Walks of the lexer: all bytes that belong.
-/
import Derived.Test.YtndgajlidckcdaaGreatDoorB01
import Derived.Deep.LoopGhost
namespace Go.Proofs.YtndgajlidckcdaaGreatDoor
open Go.RowKit

set_option maxHeartbeats 400000 in
theorem run_name {w : World} {r : Nat} {S : LS} (h : Rd w r S) (fit : Fit S) :
    Calls Tryz.prog 176 #[.pointer (some ⟨r, 0, none⟩), .func (.func 177) #[] #[]] w fun e w' => e = .returned (.string (S.src.extract S.pl (runP S.src nb (S.src.size - S.pl) S.pl))) ∧
      S.pl ≤ runP S.src nb (S.src.size - S.pl) S.pl ∧ Rd w' r { S with pl := runP S.src nb (S.src.size - S.pl) S.pl } ∧ Fit { S with pl := runP S.src nb (S.src.size - S.pl) S.pl } ∧ Ext r w w' := by
  obtain ⟨z1, z2, z3⟩ := fit
  have c1 := h.c1
  go_enter Tryz.func176, Tryz.ntmps176
  go_wp2
  clear c1
  go_loopg [] (S.src.size - S.pl) (fun k wr => ∃ p : Nat, Rd wr r { S with pl := p } ∧ p ≤ S.src.size ∧ S.pl ≤ p ∧ k = S.src.size - p ∧ Hid (runP S.src nb (S.src.size - p) p = runP S.src nb (S.src.size - S.pl) S.pl) ∧ Ext r w wr)
  case atStart => exact ⟨S.pl, h, z2, Nat.le_refl _, rfl, rfl, Ext.refl _ _⟩
  case round =>
    clear h
    obtain ⟨p, h, hp, hl, hk, HE, HX⟩ := hrel
    have c0 := h.c0
    have c1 := h.c1
    have f1 := h.f1
    have HR := hide h
    clear h
    subst hk
    by_cases hlt : p < S.src.size
    · have hlt' : decide ((p : Int) < S.src.size) = true := by simp; omega
      have hlt2 : (p : Int) < S.src.size := by omega
      cases hb : nb S.src[p].toNat
      · have H1 := hide ((run_no (B := nb) hlt hb).symm.trans (unhide HE))
        clear HE
        go_wp2
        go_quiet ((go_at_call 177; exact Calls.quiet_of_same (nb_calls _ _)))
        go_wp2
        go_quiet (fail)
        go_wp2
        go_ret
        rw [← unhide H1]
        refine ⟨?_, hl, ((unhide HR).drewN _).drewN _, ⟨z1, hp, ?_⟩, (HX.drewN _).drewN _⟩
        · simp
        · show S.ln ≤ p + 1
          omega
      · have H1 := hide ((run_yes (B := nb) hlt hb).symm.trans (unhide HE))
        clear HE
        go_wp2
        go_quiet ((go_at_call 177; exact Calls.quiet_of_same (nb_calls _ _)))
        go_wp2
        go_roundg (S.src.size - (p + 1))
        case measure => omega
        case rel => exact ⟨p + 1, ((unhide HR).drewN _).set1 (p + 1), by omega, by omega, rfl, H1, (HX.drewN _).setCell 1 _⟩
    · have hlt' : decide ((p : Int) < S.src.size) = false := by simp; omega
      have H1 := hide ((run_end (B := nb) hlt).symm.trans (unhide HE))
      clear HE
      go_wp2
      go_quiet ((go_at_call 177; exact Calls.quiet_of_same (nb_calls _ _)))
      go_wp2
      go_quiet (fail)
      go_wp2
      go_ret
      rw [← unhide H1]
      refine ⟨?_, hl, ((unhide HR).drewN _).drewN _, ⟨z1, hp, ?_⟩, (HX.drewN _).drewN _⟩
      · simp
      · show S.ln ≤ p + 1
        omega

set_option maxHeartbeats 400000 in
theorem run_digits {w : World} {r : Nat} {S : LS} (h : Rd w r S) (fit : Fit S) :
    Calls Tryz.prog 176 #[.pointer (some ⟨r, 0, none⟩), .func (.func 119) #[] #[]] w fun e w' => e = .returned (.string (S.src.extract S.pl (runP S.src dg (S.src.size - S.pl) S.pl))) ∧
      S.pl ≤ runP S.src dg (S.src.size - S.pl) S.pl ∧ Rd w' r { S with pl := runP S.src dg (S.src.size - S.pl) S.pl } ∧ Fit { S with pl := runP S.src dg (S.src.size - S.pl) S.pl } ∧ Ext r w w' := by
  obtain ⟨z1, z2, z3⟩ := fit
  have c1 := h.c1
  go_enter Tryz.func176, Tryz.ntmps176
  go_wp2
  clear c1
  go_loopg [] (S.src.size - S.pl) (fun k wr => ∃ p : Nat, Rd wr r { S with pl := p } ∧ p ≤ S.src.size ∧ S.pl ≤ p ∧ k = S.src.size - p ∧ Hid (runP S.src dg (S.src.size - p) p = runP S.src dg (S.src.size - S.pl) S.pl) ∧ Ext r w wr)
  case atStart => exact ⟨S.pl, h, z2, Nat.le_refl _, rfl, rfl, Ext.refl _ _⟩
  case round =>
    clear h
    obtain ⟨p, h, hp, hl, hk, HE, HX⟩ := hrel
    have c0 := h.c0
    have c1 := h.c1
    have f1 := h.f1
    have HR := hide h
    clear h
    subst hk
    by_cases hlt : p < S.src.size
    · have hlt' : decide ((p : Int) < S.src.size) = true := by simp; omega
      have hlt2 : (p : Int) < S.src.size := by omega
      cases hb : dg S.src[p].toNat
      · have H1 := hide ((run_no (B := dg) hlt hb).symm.trans (unhide HE))
        clear HE
        go_wp2
        go_quiet ((go_at_call 119; exact Calls.quiet_of_same (dig_any _ _)))
        go_wp2
        go_quiet (fail)
        go_wp2
        go_ret
        rw [← unhide H1]
        refine ⟨?_, hl, ((unhide HR).drewN _).drewN _, ⟨z1, hp, ?_⟩, (HX.drewN _).drewN _⟩
        · simp
        · show S.ln ≤ p + 1
          omega
      · have H1 := hide ((run_yes (B := dg) hlt hb).symm.trans (unhide HE))
        clear HE
        go_wp2
        go_quiet ((go_at_call 119; exact Calls.quiet_of_same (dig_any _ _)))
        go_wp2
        go_roundg (S.src.size - (p + 1))
        case measure => omega
        case rel => exact ⟨p + 1, ((unhide HR).drewN _).set1 (p + 1), by omega, by omega, rfl, H1, (HX.drewN _).setCell 1 _⟩
    · have hlt' : decide ((p : Int) < S.src.size) = false := by simp; omega
      have H1 := hide ((run_end (B := dg) hlt).symm.trans (unhide HE))
      clear HE
      go_wp2
      go_quiet ((go_at_call 119; exact Calls.quiet_of_same (dig_any _ _)))
      go_wp2
      go_quiet (fail)
      go_wp2
      go_ret
      rw [← unhide H1]
      refine ⟨?_, hl, ((unhide HR).drewN _).drewN _, ⟨z1, hp, ?_⟩, (HX.drewN _).drewN _⟩
      · simp
      · show S.ln ≤ p + 1
        omega

end Go.Proofs.YtndgajlidckcdaaGreatDoor
