/-
  Whether an image may be run: where nothing is wrong, nil is told.
-/
import Derived.Test.YtkafldkhmkdafaaDoorM25
namespace Go.Proofs.YtkafldkhmkdafaaDoor
open Go.RowKit

def CheckPostZ (m : PM) (w : World) (e : Ending) (w' : World) : Prop := Below w.heap.size w w' ∧ ∃ v n p, e = .returned v ∧ ErrAt w' v n p ∧ Verdict m n p ∧ (n = 0 → v = .nilIface)
set_option maxRecDepth 100000 in
set_option maxHeartbeats 4000000 in
theorem check_limitZ {w : World} {b : Nat} {m : PM} {vf vc vk : Value} (h : ImgAt w b m vf vc vk) (hl : limitOk m = false) :
    Calls Tryd.prog 7 #[.pointer (some ⟨b, 0, none⟩)] w fun e w' => CheckPostZ m w e w' := by
  have hd : ¬ (1 ≤ m.funcs.length ∧ m.funcs.length ≤ 250 ∧ m.consts.length ≤ 1000 ∧ m.classes.length ≤ 250) := by
    intro hh
    have : limitOk m = true := by
      unfold limitOk inB
      simp
      omega
    rw [this] at hl
    cases hl
  have HL := hide hl
  have c0 := h.c0
  have c1 := h.c1
  have c2 := h.c2
  obtain ⟨_, ⟨gf, capf, rfl, _, _⟩, _⟩ := h.img.funcs
  obtain ⟨gc, capc, rfl, _, _⟩ := h.img.consts
  obtain ⟨_, ⟨gk, capk, rfl, _, _⟩, _⟩ := h.img.classes
  clear h hl
  have fin : Hid (CheckPostZ m w (.returned (.iface 33 (.int .i64 4))) w) := ⟨Below.refl _ _, _, 4, -1, rfl, Or.inr (Or.inl ⟨rfl, rfl⟩), Or.inl ⟨unhide HL, rfl, rfl⟩, fun q => absurd q (by decide)⟩
  generalize m.funcs.length = F at *
  generalize m.consts.length = K at *
  generalize m.classes.length = L at *
  by_cases h1 : F = 0
  · have b1 : ((F : Int) == 0) = true := by rw [beq_iff_eq]; omega
    clear hd h1
    go_enter Tryd.func7, Tryd.ntmps7
    go_wp2_with fail
    go_ret
    exact unhide fin
  · have b1 : ((F : Int) == 0) = false := by rw [beq_eq_false_iff_ne]; omega
    by_cases h2 : 250 < F
    · have b2 : decide ((250 : Int) < (F : Int)) = true := by simp; omega
      clear hd h1
      go_enter Tryd.func7, Tryd.ntmps7
      go_wp2_with fail
      go_ret
      exact unhide fin
    · have b2 : decide ((250 : Int) < (F : Int)) = false := by simp; omega
      by_cases h3 : 1000 < K
      · have b3 : decide ((1000 : Int) < (K : Int)) = true := by simp; omega
        clear hd h1
        go_enter Tryd.func7, Tryd.ntmps7
        go_wp2_with fail
        go_ret
        exact unhide fin
      · have b3 : decide ((1000 : Int) < (K : Int)) = false := by simp; omega
        have b4 : decide ((250 : Int) < (L : Int)) = true := by simp; omega
        clear hd h1
        go_enter Tryd.func7, Tryd.ntmps7
        go_wp2_with fail
        go_ret
        exact unhide fin


set_option maxRecDepth 100000 in
set_option maxHeartbeats 8000000 in
theorem check_anyZ {w : World} {b : Nat} {m : PM} {vf vc vk : Value} (h : ImgAt w b m vf vc vk) (hin : InM m) :
    Calls Tryd.prog 7 #[.pointer (some ⟨b, 0, none⟩)] w fun e w' => CheckPostZ m w e w' := by
  cases hl : limitOk m with
  | false => exact check_limitZ h hl
  | true =>
    have hd : (1 ≤ m.funcs.length ∧ m.funcs.length ≤ 250 ∧ m.consts.length ≤ 1000 ∧ m.classes.length ≤ 250) := by
      unfold limitOk inB at hl
      simp at hl
      omega
    obtain ⟨hd1, hd2, hd3, hd4⟩ := hd
    have b1 : ((m.funcs.length : Int) == 0) = false := by rw [beq_eq_false_iff_ne]; omega
    have b2 : decide ((250 : Int) < (m.funcs.length : Int)) = false := by simp; omega
    have b3 : decide ((1000 : Int) < (m.consts.length : Int)) = false := by simp; omega
    have b4 : decide ((250 : Int) < (m.classes.length : Int)) = false := by simp; omega
    have HL := hide hl
    have H := hide h
    have HIN := hide hin
    have c0 := h.c0
    have c1 := h.c1
    have c2 := h.c2
    obtain ⟨RF, ⟨gf, capf, rfl, _, rf⟩, hRF⟩ := h.img.funcs
    obtain ⟨gc, capc, rfl, _, _⟩ := h.img.consts
    obtain ⟨_, ⟨gk, capk, rfl, _, _⟩, _⟩ := h.img.classes
    have HRF := hide rf
    have HRR := hide hRF
    have HC0 := hide c0
    clear h hl hin rf hRF
    go_enter Tryd.func7, Tryd.ntmps7
    go_wp2_with fail
    go_loopg [45] m.classes.length (fun gg i wr => ∃ k : Nat, k ≤ m.classes.length ∧ gg = m.classes.length - k ∧ i = .int .i64 k ∧ Hid (∀ (j : Nat) (c : PK), j < k → m.classes[j]? = some c → classOk m j c = true) ∧ Hid (Below w.heap.size w wr))
    case atStart => exact ⟨0, Nat.zero_le _, rfl, rfl, fun j c hj => absurd hj (Nat.not_lt_zero j), Below.refl _ _⟩
    case round =>
      obtain ⟨k, hk, rfl, rfl, HA, HB⟩ := hrel
      by_cases hlt : k < m.classes.length
      · have hx : m.classes[k]? = some (m.classes[k]'hlt) := List.getElem?_eq_getElem _
        generalize (m.classes[k]'hlt) = x at *
        have hk2 : (k : Int) < (m.classes.length : Int) := by omega
        have HX := hide hx
        clear hx c0 c1 c2
        go_wp2_with fail
        refine (class_any ((unhide H).keep (unhide HB)) (unhide HX)).mono ?_
        rintro e w2 ⟨rfl, hb2⟩
        have HB2 := hide ((unhide HB).trans (hb2.mono (unhide HB).size))
        clear hb2
        cases hc : classOk m k x with
        | false =>
          have HC := hide hc
          go_wp2_with fail
          go_ret
          refine ⟨unhide HB2, _, 2, -1, rfl, Or.inr (Or.inl ⟨rfl, rfl⟩), Or.inr (Or.inl ⟨unhide HL, fun hh => ?_, rfl, rfl⟩), fun q => absurd q (by decide)⟩
          have := hh k x (unhide HX)
          rw [unhide HC] at this
          cases this
        | true =>
          have HC := hide hc
          go_wp2_with fail
          go_roundg (m.classes.length - (k + 1))
          case measure => omega
          case rel =>
            refine ⟨k + 1, by omega, rfl, by go_num, fun j c hj hcj => ?_, unhide HB2⟩
            by_cases e : j = k
            · subst e
              rw [unhide HX] at hcj
              cases hcj
              exact unhide HC
            · exact unhide HA j c (by omega) hcj
      · obtain rfl : k = m.classes.length := by omega
        have hff : decide ((m.classes.length : Int) < (m.classes.length : Int)) = false := by simp
        have HOK : Hid (ClassesOk m) := fun i c hc => unhide HA i c (List.getElem?_eq_some_iff.1 hc).1 hc
        have d0 := cellk (unhide HB) c0 (cell_lt c0)
        clear c0 c1 c2 HA hlt hk
        go_wp2_with fail
        go_loopg [59] m.funcs.length (fun gg i wr => ∃ k : Nat, k ≤ m.funcs.length ∧ gg = m.funcs.length - k ∧ i = .int .i64 k ∧ Hid (∀ (j : Nat) (g : PF), j < k → m.funcs[j]? = some g → FnErr m g 0) ∧ Hid (Below w.heap.size w wr))
        case atStart => exact ⟨0, Nat.zero_le _, rfl, rfl, fun j c hj => absurd hj (Nat.not_lt_zero j), unhide HB⟩
        case round =>
          obtain ⟨k, hk, rfl, rfl, HA, HB⟩ := hrel
          by_cases hlt : k < m.funcs.length
          · have hx : m.funcs[k]? = some (m.funcs[k]'hlt) := List.getElem?_eq_getElem _
            generalize (m.funcs[k]'hlt) = x at *
            have hk2 : (k : Int) < (m.funcs.length : Int) := by omega
            obtain ⟨gb, go, rfl, hF⟩ := FnAt.of_rows (unhide HRF) hlt (unhide HRR k x hx)
            have HF := hide hF
            have HX := hide hx
            have e0 := cellk (unhide HB) (unhide HC0) (cell_lt (unhide HC0))
            clear hx d0 hF
            go_wp2_with fail
            refine (checkFunc_any ((unhide H).keep (unhide HB)) ((unhide HF).keep (unhide HB)) (unhide HIN x (List.mem_of_getElem? (unhide HX)))).mono ?_
            rintro e w2 ⟨hb2, n, rfl, hn⟩
            have HB2 := hide ((unhide HB).trans (hb2.mono (unhide HB).size))
            have HN := hide hn
            clear hb2 hn
            by_cases h0 : n = 0
            · have hb0 : (n != 0) = false := by rw [bne_eq_false_iff_eq]; exact h0
              have H0 := hide h0
              clear h0
              go_wp2_with fail
              go_roundg (m.funcs.length - (k + 1))
              case measure => omega
              case rel =>
                refine ⟨k + 1, by omega, rfl, by go_num, fun j c hj hcj => ?_, unhide HB2⟩
                by_cases e : j = k
                · subst e
                  rw [unhide HX] at hcj
                  cases hcj
                  have := unhide HN
                  rwa [unhide H0] at this
                · exact unhide HA j c (by omega) hcj
            · have hb0 : (n != 0) = true := by rw [bne_iff_ne]; exact h0
              have H0 := hide h0
              clear h0
              go_wp2_with fail
              go_ret
              refine ⟨(unhide HB2).alloc (unhide HB2).size _, _, n, k, rfl, Or.inr (Or.inr ⟨_, rfl, hcell (hnew _ _) 0, hcell (hnew _ _) 1⟩), Or.inr (Or.inr ⟨unhide HL, unhide HOK, Or.inl ⟨k, x, unhide HX, unhide HN, unhide H0, rfl, unhide HA⟩⟩), fun q => absurd q (unhide H0)⟩
          · obtain rfl : k = m.funcs.length := by omega
            have hff2 : decide ((m.funcs.length : Int) < (m.funcs.length : Int)) = false := by simp
            clear d0 hlt hk
            go_wp2_with fail
            go_ret
            exact ⟨unhide HB, _, 0, -1, rfl, Or.inl ⟨rfl, rfl, rfl⟩, Or.inr (Or.inr ⟨unhide HL, unhide HOK, Or.inr ⟨rfl, rfl, fun j g hj => unhide HA j g (List.getElem?_eq_some_iff.1 hj).1 hj⟩⟩), fun _ => rfl⟩
end Go.Proofs.YtkafldkhmkdafaaDoor
