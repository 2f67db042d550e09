/-
  Walks of the lexer: blanks.
  Walks of the lexer: all bytes that belong.
  Walks of the lexer: bytes of strings.
-/
import Derived.Test.YtcpjefdbgjlnnaaGreatDoorM01
import Derived.Deep.LoopGhost
namespace Go.Proofs.YtcpjefdbgjlnnaaGreatDoor
open Go.RowKit

set_option maxHeartbeats 400000 in
theorem skipBlanks_any {w : World} {r : Nat} {S : LS} (h : Rd w r S) (fit : Fit S) :
    Calls Tryz.prog 121 #[.pointer (some ⟨r, 0, none⟩)] w fun e w' => e = .returned (.tuple #[]) ∧
      Rd w' r { S with pl := (skipP S.src (S.src.size - S.pl) S.pl S.ln).1, ln := (skipP S.src (S.src.size - S.pl) S.pl S.ln).2 } ∧
      Fit { S with pl := (skipP S.src (S.src.size - S.pl) S.pl S.ln).1, ln := (skipP S.src (S.src.size - S.pl) S.pl S.ln).2 } ∧ Ext r w w' := by
  obtain ⟨z1, z2, z3⟩ := fit
  go_enter Tryz.func121, Tryz.ntmps121
  go_wp2
  go_loopg [] (S.src.size - S.pl) (fun k wr => ∃ p l : Nat, Rd wr r { S with pl := p, ln := l } ∧ p ≤ S.src.size ∧ l ≤ p + 1 ∧ k = S.src.size - p ∧ Hid (skipP S.src (S.src.size - p) p l = skipP S.src (S.src.size - S.pl) S.pl S.ln) ∧ Ext r w wr)
  case atStart => exact ⟨S.pl, S.ln, h, z2, z3, rfl, rfl, Ext.refl _ _⟩
  case round =>
    clear h
    obtain ⟨p, l, h, hp, hl, hk, HE, HX⟩ := hrel
    have c0 := h.c0
    have c1 := h.c1
    have c2 := h.c2
    have f1 := h.f1
    have f2 := h.f2
    have HR := hide h
    clear h
    subst hk
    by_cases hlt : p < S.src.size
    · have hlt' : decide ((p : Int) < S.src.size) = true := by simp; omega
      rcases (by omega : S.src[p].toNat = 10 ∨ S.src[p].toNat = 32 ∨ (S.src[p].toNat ≠ 10 ∧ S.src[p].toNat ≠ 32)) with h1 | h1 | ⟨h1, h2⟩
      · have H1 := hide ((skip_feed hlt h1).symm.trans (unhide HE))
        have b1 : ((S.src[p].toNat : Int) == 10) = true := by rw [beq_iff_eq]; omega
        clear h1 HE
        go_wp2
        go_quiet (fail)
        go_wp2
        go_quiet (fail)
        go_wp2
        go_roundg (S.src.size - (p + 1))
        case measure => omega
        case rel => exact ⟨p + 1, l + 1, (((unhide HR).drewN _).set2 (l + 1)).set1 (p + 1), by omega, by omega, rfl, H1, ((HX.drewN _).setCell 2 _).setCell 1 _⟩
      · have H1 := hide ((skip_blank hlt h1).symm.trans (unhide HE))
        have b1 : ((S.src[p].toNat : Int) == 10) = false := by rw [beq_eq_false_iff_ne]; omega
        have b2 : ((S.src[p].toNat : Int) == 32) = true := by rw [beq_iff_eq]; omega
        clear h1 HE
        go_wp2
        go_quiet (fail)
        go_wp2
        go_quiet (fail)
        go_wp2
        go_roundg (S.src.size - (p + 1))
        case measure => omega
        case rel => exact ⟨p + 1, l, ((unhide HR).drewN _).set1 (p + 1), by omega, by omega, rfl, H1, (HX.drewN _).setCell 1 _⟩
      · have H1 := hide ((skip_stop hlt h1 h2).symm.trans (unhide HE))
        have b1 : ((S.src[p].toNat : Int) == 10) = false := by rw [beq_eq_false_iff_ne]; omega
        have b2 : ((S.src[p].toNat : Int) == 32) = false := by rw [beq_eq_false_iff_ne]; omega
        clear h1 h2 HE
        go_wp2
        go_quiet (fail)
        go_wp2
        go_quiet (fail)
        go_wp2
        refine bodyPost_ret (results_none Tryz.results121 _ _ _) rfl ?_
        rw [← unhide H1]
        exact ⟨rfl, (unhide HR).drewN _, ⟨z1, hp, hl⟩, HX.drewN _⟩
    · have hlt' : decide ((p : Int) < S.src.size) = false := by simp; omega
      have H1 := hide ((skip_end hlt).symm.trans (unhide HE))
      clear HE
      go_wp2
      go_quiet (fail)
      go_wp2
      go_end0
      rw [← unhide H1]
      exact ⟨rfl, (unhide HR).drewN _, ⟨z1, hp, hl⟩, HX.drewN _⟩
end Go.Proofs.YtcpjefdbgjlnnaaGreatDoor

namespace Go.Proofs.YtcpjefdbgjlnnaaGreatDoor
open Go.RowKit

set_option maxHeartbeats 400000 in
theorem run_name {w : World} {r : Nat} {S : LS} (h : Rd w r S) (fit : Fit S) :
    Calls Tryz.prog 181 #[.pointer (some ⟨r, 0, none⟩), .func (.func 182) #[] #[]] w fun e w' => e = .returned (.string (S.src.extract S.pl (runP S.src nb (S.src.size - S.pl) S.pl))) ∧
      S.pl ≤ runP S.src nb (S.src.size - S.pl) S.pl ∧ Rd w' r { S with pl := runP S.src nb (S.src.size - S.pl) S.pl } ∧ Fit { S with pl := runP S.src nb (S.src.size - S.pl) S.pl } ∧ Ext r w w' := by
  obtain ⟨z1, z2, z3⟩ := fit
  have c1 := h.c1
  go_enter Tryz.func181, Tryz.ntmps181
  go_wp2
  clear c1
  go_loopg [] (S.src.size - S.pl) (fun k wr => ∃ p : Nat, Rd wr r { S with pl := p } ∧ p ≤ S.src.size ∧ S.pl ≤ p ∧ k = S.src.size - p ∧ Hid (runP S.src nb (S.src.size - p) p = runP S.src nb (S.src.size - S.pl) S.pl) ∧ Ext r w wr)
  case atStart => exact ⟨S.pl, h, z2, Nat.le_refl _, rfl, rfl, Ext.refl _ _⟩
  case round =>
    clear h
    obtain ⟨p, h, hp, hl, hk, HE, HX⟩ := hrel
    have c0 := h.c0
    have c1 := h.c1
    have f1 := h.f1
    have HR := hide h
    clear h
    subst hk
    by_cases hlt : p < S.src.size
    · have hlt' : decide ((p : Int) < S.src.size) = true := by simp; omega
      have hlt2 : (p : Int) < S.src.size := by omega
      cases hb : nb S.src[p].toNat
      · have H1 := hide ((run_no (B := nb) hlt hb).symm.trans (unhide HE))
        clear HE
        go_wp2
        go_quiet ((go_at_call 182; exact Calls.quiet_of_same (nb_calls _ _)))
        go_wp2
        go_quiet (fail)
        go_wp2
        go_ret
        rw [← unhide H1]
        refine ⟨?_, hl, ((unhide HR).drewN _).drewN _, ⟨z1, hp, ?_⟩, (HX.drewN _).drewN _⟩
        · simp
        · show S.ln ≤ p + 1
          omega
      · have H1 := hide ((run_yes (B := nb) hlt hb).symm.trans (unhide HE))
        clear HE
        go_wp2
        go_quiet ((go_at_call 182; exact Calls.quiet_of_same (nb_calls _ _)))
        go_wp2
        go_roundg (S.src.size - (p + 1))
        case measure => omega
        case rel => exact ⟨p + 1, ((unhide HR).drewN _).set1 (p + 1), by omega, by omega, rfl, H1, (HX.drewN _).setCell 1 _⟩
    · have hlt' : decide ((p : Int) < S.src.size) = false := by simp; omega
      have H1 := hide ((run_end (B := nb) hlt).symm.trans (unhide HE))
      clear HE
      go_wp2
      go_quiet ((go_at_call 182; exact Calls.quiet_of_same (nb_calls _ _)))
      go_wp2
      go_quiet (fail)
      go_wp2
      go_ret
      rw [← unhide H1]
      refine ⟨?_, hl, ((unhide HR).drewN _).drewN _, ⟨z1, hp, ?_⟩, (HX.drewN _).drewN _⟩
      · simp
      · show S.ln ≤ p + 1
        omega

set_option maxHeartbeats 400000 in
theorem run_digits {w : World} {r : Nat} {S : LS} (h : Rd w r S) (fit : Fit S) :
    Calls Tryz.prog 181 #[.pointer (some ⟨r, 0, none⟩), .func (.func 124) #[] #[]] w fun e w' => e = .returned (.string (S.src.extract S.pl (runP S.src dg (S.src.size - S.pl) S.pl))) ∧
      S.pl ≤ runP S.src dg (S.src.size - S.pl) S.pl ∧ Rd w' r { S with pl := runP S.src dg (S.src.size - S.pl) S.pl } ∧ Fit { S with pl := runP S.src dg (S.src.size - S.pl) S.pl } ∧ Ext r w w' := by
  obtain ⟨z1, z2, z3⟩ := fit
  have c1 := h.c1
  go_enter Tryz.func181, Tryz.ntmps181
  go_wp2
  clear c1
  go_loopg [] (S.src.size - S.pl) (fun k wr => ∃ p : Nat, Rd wr r { S with pl := p } ∧ p ≤ S.src.size ∧ S.pl ≤ p ∧ k = S.src.size - p ∧ Hid (runP S.src dg (S.src.size - p) p = runP S.src dg (S.src.size - S.pl) S.pl) ∧ Ext r w wr)
  case atStart => exact ⟨S.pl, h, z2, Nat.le_refl _, rfl, rfl, Ext.refl _ _⟩
  case round =>
    clear h
    obtain ⟨p, h, hp, hl, hk, HE, HX⟩ := hrel
    have c0 := h.c0
    have c1 := h.c1
    have f1 := h.f1
    have HR := hide h
    clear h
    subst hk
    by_cases hlt : p < S.src.size
    · have hlt' : decide ((p : Int) < S.src.size) = true := by simp; omega
      have hlt2 : (p : Int) < S.src.size := by omega
      cases hb : dg S.src[p].toNat
      · have H1 := hide ((run_no (B := dg) hlt hb).symm.trans (unhide HE))
        clear HE
        go_wp2
        go_quiet ((go_at_call 124; exact Calls.quiet_of_same (dig_any _ _)))
        go_wp2
        go_quiet (fail)
        go_wp2
        go_ret
        rw [← unhide H1]
        refine ⟨?_, hl, ((unhide HR).drewN _).drewN _, ⟨z1, hp, ?_⟩, (HX.drewN _).drewN _⟩
        · simp
        · show S.ln ≤ p + 1
          omega
      · have H1 := hide ((run_yes (B := dg) hlt hb).symm.trans (unhide HE))
        clear HE
        go_wp2
        go_quiet ((go_at_call 124; exact Calls.quiet_of_same (dig_any _ _)))
        go_wp2
        go_roundg (S.src.size - (p + 1))
        case measure => omega
        case rel => exact ⟨p + 1, ((unhide HR).drewN _).set1 (p + 1), by omega, by omega, rfl, H1, (HX.drewN _).setCell 1 _⟩
    · have hlt' : decide ((p : Int) < S.src.size) = false := by simp; omega
      have H1 := hide ((run_end (B := dg) hlt).symm.trans (unhide HE))
      clear HE
      go_wp2
      go_quiet ((go_at_call 124; exact Calls.quiet_of_same (dig_any _ _)))
      go_wp2
      go_quiet (fail)
      go_wp2
      go_ret
      rw [← unhide H1]
      refine ⟨?_, hl, ((unhide HR).drewN _).drewN _, ⟨z1, hp, ?_⟩, (HX.drewN _).drewN _⟩
      · simp
      · show S.ln ≤ p + 1
        omega

end Go.Proofs.YtcpjefdbgjlnnaaGreatDoor

namespace Go.Proofs.YtcpjefdbgjlnnaaGreatDoor
open Go.RowKit

set_option maxHeartbeats 400000 in
theorem inString_ok {w : World} {r : Nat} {S : LS} (h : Rd w r S) (fit : Fit S) (hlt : S.pl < S.src.size) (hn : S.src[S.pl].toNat ≠ 10) :
    Calls Tryz.prog 185 #[.pointer (some ⟨r, 0, none⟩)] w fun e w' => e = .returned (.int .u8 S.src[S.pl].toNat) ∧
      Rd w' r { S with pl := S.pl + 1 } ∧ Ext r w w' := by
  obtain ⟨z1, z2, z3⟩ := fit
  have c0 := h.c0
  have c1 := h.c1
  have f1 := h.f1
  have HR := hide h
  clear h
  have b0 : ((S.pl : Int) == S.src.size) = false := by rw [beq_eq_false_iff_ne]; omega
  have b1 : ((S.src[S.pl].toNat : Int) == 10) = false := by rw [beq_eq_false_iff_ne]; omega
  have hlt2 : (S.pl : Int) < S.src.size := by omega
  clear hn
  go_enter Tryz.func185, Tryz.ntmps185
  go_wp2
  go_quiet (fail)
  go_wp2
  go_quiet (fail)
  go_wp2
  go_ret
  refine ⟨?_, ?_, ?_⟩
  · simp
  · exact (((unhide HR).drewN _).set1 (S.pl + 1)).drewN _
  · exact (((Ext.refl r w).drewN _).setCell 1 _).drewN _

set_option maxHeartbeats 400000 in
theorem inString_no {w : World} {r : Nat} {S : LS} (h : Rd w r S) (fit : Fit S) (hs : ∀ hlt : S.pl < S.src.size, S.src[S.pl].toNat = 10) :
    Calls Tryz.prog 185 #[.pointer (some ⟨r, 0, none⟩)] w fun e w' => e = .panicked (thrown 3 S.pl) ∧ Ext r w w' := by
  obtain ⟨z1, z2, z3⟩ := fit
  have c0 := h.c0
  have c1 := h.c1
  clear h
  by_cases hlt : S.pl < S.src.size
  · have b0 : ((S.pl : Int) == S.src.size) = false := by rw [beq_eq_false_iff_ne]; omega
    have b1 : ((S.src[S.pl].toNat : Int) == 10) = true := by rw [beq_iff_eq]; have := hs hlt; omega
    have hlt2 : (S.pl : Int) < S.src.size := by omega
    clear hs
    go_enter Tryz.func185, Tryz.ntmps185
    go_wp2
    go_quiet (fail)
    go_wp2
    exact ⟨rfl, rfl, (Ext.refl r w).drewN _⟩
  · have b0 : ((S.pl : Int) == S.src.size) = true := by rw [beq_iff_eq]; omega
    clear hs
    go_enter Tryz.func185, Tryz.ntmps185
    go_wp2
    go_quiet (fail)
    go_wp2
    exact ⟨rfl, rfl, (Ext.refl r w).drewN _⟩

/-- What the byte behind a backslash stands for. -/
def escP (c : Nat) : Option Nat := if c = 110 then some 10 else if c = 34 then some 34 else if c = 92 then some 92 else none

def escPost (o : Option Nat) (p : Nat) (e : Ending) (R : Prop) : Prop := match o with
  | some c => e = .returned (.int .u8 c) ∧ R
  | none => e = .panicked (thrown 3 p)

set_option maxHeartbeats 1000000 in
theorem escaped_any {w : World} {r : Nat} {S : LS} (h : Rd w r S) (fit : Fit S) (hlt : S.pl < S.src.size) (hn : S.src[S.pl].toNat ≠ 10) :
    Calls Tryz.prog 186 #[.pointer (some ⟨r, 0, none⟩)] w fun e w' =>
      escPost (escP S.src[S.pl].toNat) S.pl e (Rd w' r { S with pl := S.pl + 1 }) ∧ Ext r w w' := by
  have HI := hide (inString_ok h fit hlt hn)
  obtain ⟨z1, z2, z3⟩ := fit
  clear h hn
  obtain ⟨c, hc⟩ : ∃ c, S.src[S.pl].toNat = c := ⟨_, rfl⟩
  rw [hc] at HI
  rw [hc]
  clear hc
  have HS := hide z3
  clear z3
  rcases (by omega : c = 110 ∨ c = 34 ∨ c = 92 ∨ (c ≠ 110 ∧ c ≠ 34 ∧ c ≠ 92)) with rfl | rfl | rfl | ⟨h1, h2, h3⟩
  · go_enter Tryz.func186, Tryz.ntmps186
    go_wp2_with fail
    refine (unhide HI).mono ?_
    rintro e w1 ⟨rfl, hr, hx⟩
    go_wp2_with fail
    go_ret
    exact ⟨⟨rfl, hr⟩, hx⟩
  · go_enter Tryz.func186, Tryz.ntmps186
    go_wp2_with fail
    refine (unhide HI).mono ?_
    rintro e w1 ⟨rfl, hr, hx⟩
    go_wp2_with fail
    go_ret
    exact ⟨⟨rfl, hr⟩, hx⟩
  · go_enter Tryz.func186, Tryz.ntmps186
    go_wp2_with fail
    refine (unhide HI).mono ?_
    rintro e w1 ⟨rfl, hr, hx⟩
    go_wp2_with fail
    go_ret
    exact ⟨⟨rfl, hr⟩, hx⟩
  · have b1 : ((c : Int) == 110) = false := by rw [beq_eq_false_iff_ne]; omega
    have b2 : ((c : Int) == 34) = false := by rw [beq_eq_false_iff_ne]; omega
    have b3 : ((c : Int) == 92) = false := by rw [beq_eq_false_iff_ne]; omega
    have he : escP c = none := by simp [escP, h1, h2, h3]
    have HE := hide he
    clear he h1 h2 h3
    go_enter Tryz.func186, Tryz.ntmps186
    go_wp2_with fail
    refine (unhide HI).mono ?_
    rintro e w1 ⟨rfl, hr, hx⟩
    have c1 := hr.c1
    go_wp2_with fail
    refine ⟨rfl, ?_, hx⟩
    rw [unhide HE]
    exact rfl
end Go.Proofs.YtcpjefdbgjlnnaaGreatDoor
