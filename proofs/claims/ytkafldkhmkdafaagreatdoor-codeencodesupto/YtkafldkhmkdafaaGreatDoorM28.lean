/-
  Package code's Encode.
  Whether an image may be run: where nothing is wrong, nil is told.
-/
import Derived.Test.YtkafldkhmkdafaaGreatDoorM27
namespace Go.Proofs.YtkafldkhmkdafaaGreatDoor
open Go.RowKit

theorem bytes_of_owns {w : World} {B : Nat} {v : Value} {l : List Int} (h : w.ownsRow B 5 1 v l.length (l.map bv)) (hb : ∀ x ∈ l, 0 ≤ x ∧ x < 256) : ∃ g cap, v = .slice g l.length cap ∧ BytesAt w g l := by
  obtain ⟨g, cap, e, hr⟩ := rows_of_owns h (Flat.bytes l)
  refine ⟨g, cap, e, fun i hi => ?_, hb⟩
  obtain ⟨q, o, e, hc⟩ := hr i hi
  refine ⟨q, o, e, ?_⟩
  have := hc 0 (by omega)
  rw [byteRow_get hi, Nat.mul_one, Nat.add_zero] at this
  exact this
theorem encM_byte (m : PM) : Byt (encM m) := fun x hx => encImg_byte m x (List.mem_append_left _ hx)
theorem Cw.row {B q : Nat} {w : World} {bs : List Int} (h : Cw B q true w bs) : ∃ v, w.heap[q]? = some (.cells #[v] 86 (0, 0)) ∧ w.ownsRow B 5 1 v bs.length (bs.map bv) := by
  obtain ⟨v, h1, h2 | ⟨h2, _⟩⟩ := h.blk
  · exact ⟨v, h1, h2⟩
  · cases h2

set_option maxRecDepth 100000 in
set_option maxHeartbeats 4000000 in
theorem cencode_any {w : World} {b : Nat} {m : PM} {vf vc vk : Value} (h : ImgAt w b m vf vc vk) (hok : okW m) (hlen : (encImg m).length ≤ 15000000) :
    Calls Tryz.prog 8 #[.pointer (some ⟨b, 0, none⟩)] w fun e w' => EncPost w m e w' := by
  obtain ⟨RF, ⟨gf, capf, rfl, nf, rf⟩, hRF⟩ := h.img.funcs
  obtain ⟨gc, capc, rfl, nc, rc⟩ := h.img.consts
  obtain ⟨RK, ⟨gk, capk, rfl, nk, rk⟩, hRK⟩ := h.img.classes
  have HRF := hide rf
  have HRRF := hide hRF
  have HRK := hide rk
  have HRRK := hide hRK
  have HRC := hide rc
  have HM0 := hide h.c0
  have HM1 := hide h.c1
  have HM2 := hide h.c2
  have HOK := hide hok
  have hl2 := hlen
  simp only [encImg, encM, encL, List.length_append] at hl2
  have HLEN := hide hl2
  have hbl : b < w.heap.size := cell_lt h.c0
  obtain ⟨W0, hW0⟩ : ∃ W0, (w.alloc (.cells #[.int .u8 82, .int .u8 87, .int .u8 78, .int .u8 68] 5 (4, 5))).alloc (.cells #[.slice (some ⟨w.heap.size, 0, none⟩) 4 4] 86) = W0 := ⟨_, rfl⟩
  have hb0 : Below w.heap.size w W0 := by rw [← hW0]; exact ((Below.refl _ _).alloc (Nat.le_refl _) _).alloc (by simp) _
  have kc := fun (w : World) (C : Array Value) (n c : Nat) => Go.Lib.run_convert_bytes_const (P := Tryz.prog) w 39 5 C n c Tryz.underlying39 Tryz.underlying5
  have H0 : Hid (Cw w.heap.size (w.heap.size + 1) false W0 [82, 87, 78, 68]) := by
    refine ⟨⟨.slice (some ⟨w.heap.size, 0, none⟩) 4 4, ?_, Or.inr ⟨rfl, w.heap.size, rfl, Nat.le_refl _, ?_, rfl⟩⟩, by omega, hb0.size⟩
    · rw [← hW0]
      exact hnew' _ _ (by simp)
    · rw [← hW0, Below.heap_alloc _ _ _ (by simp)]
      exact hnew _ _
  have HB0 := hide hb0
  have d1 : W0.cell? ⟨b, 1, none⟩ = some (.slice gc m.consts.length capc) := cellk hb0 h.c1 hbl
  have HHB := hide hbl
  clear h rf hRF rk hRK rc hok hlen hl2 hb0 hbl
  go_enter Tryz.func8, Tryz.ntmps8
  go_wp2_with fail
  try rw [hW0]
  clear hW0 kc
  refine (wlC (unhide H0) (unhide HB0) m.consts (unhide HRC) (unhide HOK).1 (by have := unhide HLEN; simp only [encL, List.length_append, List.length_cons, List.length_nil] at this ⊢; omega)).mono ?_
  rintro e W1 ⟨rfl, hw1, hf1⟩
  have HB1 := hide ((unhide HB0).trans hf1.toBelow)
  have e1 : W1.cell? ⟨b, 2, none⟩ = some (.slice gk m.classes.length capk) := cellk (unhide HB1) (unhide HM2) (unhide HHB)
  have H1 := hide hw1
  clear hw1 hf1 d1
  go_wp2_with fail
  refine (wlK (unhide H1) (unhide HB1) m.classes (unhide HRK) (unhide HRRK) (unhide HOK).2.1 (by have := unhide HLEN; simp only [encL, List.length_append, List.length_cons, List.length_nil] at this ⊢; omega)).mono ?_
  rintro e W2 ⟨rfl, hw2, hf2⟩
  have HB2 := hide ((unhide HB1).trans hf2.toBelow)
  have e2 : W2.cell? ⟨b, 0, none⟩ = some (.slice gf m.funcs.length capf) := cellk (unhide HB2) (unhide HM0) (unhide HHB)
  have H2 := hide hw2
  clear hw2 hf2 e1
  go_wp2_with fail
  refine (wlF (unhide H2) (unhide HB2) m.funcs (unhide HRF) (unhide HRRF) (unhide HOK).2.2 (by have := unhide HLEN; simp only [encL, List.length_append, List.length_cons, List.length_nil] at this ⊢; omega)).mono ?_
  rintro e W3 ⟨rfl, hw3, hf3⟩
  have HB3 := hide ((unhide HB2).trans hf3.toBelow)
  rw [show [82, 87, 78, 68] ++ encL encC m.consts ++ encL encK m.classes ++ encL encF m.funcs = encM m by simp [encM]] at hw3
  obtain ⟨v3, hq3, ho3⟩ := hw3.row
  obtain ⟨g3, cap3, rfl, hby3⟩ := bytes_of_owns ho3 (encM_byte m)
  have e3 : W3.cell? ⟨w.heap.size + 1, 0, none⟩ = some (.slice g3 (encM m).length cap3) := hcell hq3 0
  have HBY := hide hby3
  have H3 := hide hw3
  have hml : (encM m).length ≤ 15000000 := by have := unhide HLEN; simp only [encM, encL, List.length_append]; omega
  clear hw3 hf3 hq3 ho3 hby3 e2
  go_wp2_with fail
  refine (sum_any (unhide HBY) cap3 (by omega)).mono ?_
  rintro e W4 ⟨rfl, rfl⟩
  go_wp2_with fail
  have hsb := sumL_bound (encM m)
  refine (cnum_any (unhide H3) (n := sumL (encM m)) ⟨by omega, by omega⟩ (by have := unhide HLEN; simp only [encM, encL, List.length_append] at this ⊢; omega)).mono ?_
  rintro e W5 ⟨rfl, hw5, hf5⟩
  have HB5 := hide ((unhide HB3).trans hf5.toBelow)
  obtain ⟨v5, hq5, ho5⟩ := hw5.row
  have e5 : W5.cell? ⟨w.heap.size + 1, 0, none⟩ = some v5 := hcell hq5 0
  have HO5 := hide ho5
  obtain ⟨g5, cap5, hv5⟩ := owns_form ho5
  subst hv5
  clear hw5 hf5 hq5 ho5 e3 hsb
  go_wp2_with fail
  go_ret
  refine ⟨.slice g5 (encM m ++ encN (sumL (encM m))).length cap5, ?_, unhide HB5, unhide HO5⟩
  rw [List.length_append]
  rfl

theorem cencode_nil (w : World) : Calls Tryz.prog 8 #[.pointer none] w fun e w' => e = .returned (.slice none 0 0) ∧ w' = w := by
  go_enter Tryz.func8, Tryz.ntmps8
  go_wp2_with fail
  go_ret
  exact ⟨rfl, rfl⟩
end Go.Proofs.YtkafldkhmkdafaaGreatDoor

namespace Go.Proofs.YtkafldkhmkdafaaGreatDoor
open Go.RowKit

def CheckPostZ (m : PM) (w : World) (e : Ending) (w' : World) : Prop := Below w.heap.size w w' ∧ ∃ v n p, e = .returned v ∧ ErrAt w' v n p ∧ Verdict m n p ∧ (n = 0 → v = .nilIface)
set_option maxRecDepth 100000 in
set_option maxHeartbeats 4000000 in
theorem check_limitZ {w : World} {b : Nat} {m : PM} {vf vc vk : Value} (h : ImgAt w b m vf vc vk) (hl : limitOk m = false) :
    Calls Tryz.prog 27 #[.pointer (some ⟨b, 0, none⟩)] w fun e w' => CheckPostZ m w e w' := by
  have hd : ¬ (1 ≤ m.funcs.length ∧ m.funcs.length ≤ 250 ∧ m.consts.length ≤ 1000 ∧ m.classes.length ≤ 250) := by
    intro hh
    have : limitOk m = true := by
      unfold limitOk inB
      simp
      omega
    rw [this] at hl
    cases hl
  have HL := hide hl
  have c0 := h.c0
  have c1 := h.c1
  have c2 := h.c2
  obtain ⟨_, ⟨gf, capf, rfl, _, _⟩, _⟩ := h.img.funcs
  obtain ⟨gc, capc, rfl, _, _⟩ := h.img.consts
  obtain ⟨_, ⟨gk, capk, rfl, _, _⟩, _⟩ := h.img.classes
  clear h hl
  have fin : Hid (CheckPostZ m w (.returned (.iface 28 (.int .i64 4))) w) := ⟨Below.refl _ _, _, 4, -1, rfl, Or.inr (Or.inl ⟨rfl, rfl⟩), Or.inl ⟨unhide HL, rfl, rfl⟩, fun q => absurd q (by decide)⟩
  generalize m.funcs.length = F at *
  generalize m.consts.length = K at *
  generalize m.classes.length = L at *
  by_cases h1 : F = 0
  · have b1 : ((F : Int) == 0) = true := by rw [beq_iff_eq]; omega
    clear hd h1
    go_enter Tryz.func27, Tryz.ntmps27
    go_wp2_with fail
    go_ret
    exact unhide fin
  · have b1 : ((F : Int) == 0) = false := by rw [beq_eq_false_iff_ne]; omega
    by_cases h2 : 250 < F
    · have b2 : decide ((250 : Int) < (F : Int)) = true := by simp; omega
      clear hd h1
      go_enter Tryz.func27, Tryz.ntmps27
      go_wp2_with fail
      go_ret
      exact unhide fin
    · have b2 : decide ((250 : Int) < (F : Int)) = false := by simp; omega
      by_cases h3 : 1000 < K
      · have b3 : decide ((1000 : Int) < (K : Int)) = true := by simp; omega
        clear hd h1
        go_enter Tryz.func27, Tryz.ntmps27
        go_wp2_with fail
        go_ret
        exact unhide fin
      · have b3 : decide ((1000 : Int) < (K : Int)) = false := by simp; omega
        have b4 : decide ((250 : Int) < (L : Int)) = true := by simp; omega
        clear hd h1
        go_enter Tryz.func27, Tryz.ntmps27
        go_wp2_with fail
        go_ret
        exact unhide fin


set_option maxRecDepth 100000 in
set_option maxHeartbeats 8000000 in
theorem check_anyZ {w : World} {b : Nat} {m : PM} {vf vc vk : Value} (h : ImgAt w b m vf vc vk) (hin : InM m) :
    Calls Tryz.prog 27 #[.pointer (some ⟨b, 0, none⟩)] w fun e w' => CheckPostZ m w e w' := by
  cases hl : limitOk m with
  | false => exact check_limitZ h hl
  | true =>
    have hd : (1 ≤ m.funcs.length ∧ m.funcs.length ≤ 250 ∧ m.consts.length ≤ 1000 ∧ m.classes.length ≤ 250) := by
      unfold limitOk inB at hl
      simp at hl
      omega
    obtain ⟨hd1, hd2, hd3, hd4⟩ := hd
    have b1 : ((m.funcs.length : Int) == 0) = false := by rw [beq_eq_false_iff_ne]; omega
    have b2 : decide ((250 : Int) < (m.funcs.length : Int)) = false := by simp; omega
    have b3 : decide ((1000 : Int) < (m.consts.length : Int)) = false := by simp; omega
    have b4 : decide ((250 : Int) < (m.classes.length : Int)) = false := by simp; omega
    have HL := hide hl
    have H := hide h
    have HIN := hide hin
    have c0 := h.c0
    have c1 := h.c1
    have c2 := h.c2
    obtain ⟨RF, ⟨gf, capf, rfl, _, rf⟩, hRF⟩ := h.img.funcs
    obtain ⟨gc, capc, rfl, _, _⟩ := h.img.consts
    obtain ⟨_, ⟨gk, capk, rfl, _, _⟩, _⟩ := h.img.classes
    have HRF := hide rf
    have HRR := hide hRF
    have HC0 := hide c0
    clear h hl hin rf hRF
    go_enter Tryz.func27, Tryz.ntmps27
    go_wp2_with fail
    go_loopg [45] m.classes.length (fun gg i wr => ∃ k : Nat, k ≤ m.classes.length ∧ gg = m.classes.length - k ∧ i = .int .i64 k ∧ Hid (∀ (j : Nat) (c : PK), j < k → m.classes[j]? = some c → classOk m j c = true) ∧ Hid (Below w.heap.size w wr))
    case atStart => exact ⟨0, Nat.zero_le _, rfl, rfl, fun j c hj => absurd hj (Nat.not_lt_zero j), Below.refl _ _⟩
    case round =>
      obtain ⟨k, hk, rfl, rfl, HA, HB⟩ := hrel
      by_cases hlt : k < m.classes.length
      · have hx : m.classes[k]? = some (m.classes[k]'hlt) := List.getElem?_eq_getElem _
        generalize (m.classes[k]'hlt) = x at *
        have hk2 : (k : Int) < (m.classes.length : Int) := by omega
        have HX := hide hx
        clear hx c0 c1 c2
        go_wp2_with fail
        refine (class_any ((unhide H).keep (unhide HB)) (unhide HX)).mono ?_
        rintro e w2 ⟨rfl, hb2⟩
        have HB2 := hide ((unhide HB).trans (hb2.mono (unhide HB).size))
        clear hb2
        cases hc : classOk m k x with
        | false =>
          have HC := hide hc
          go_wp2_with fail
          go_ret
          refine ⟨unhide HB2, _, 2, -1, rfl, Or.inr (Or.inl ⟨rfl, rfl⟩), Or.inr (Or.inl ⟨unhide HL, fun hh => ?_, rfl, rfl⟩), fun q => absurd q (by decide)⟩
          have := hh k x (unhide HX)
          rw [unhide HC] at this
          cases this
        | true =>
          have HC := hide hc
          go_wp2_with fail
          go_roundg (m.classes.length - (k + 1))
          case measure => omega
          case rel =>
            refine ⟨k + 1, by omega, rfl, by go_num, fun j c hj hcj => ?_, unhide HB2⟩
            by_cases e : j = k
            · subst e
              rw [unhide HX] at hcj
              cases hcj
              exact unhide HC
            · exact unhide HA j c (by omega) hcj
      · obtain rfl : k = m.classes.length := by omega
        have hff : decide ((m.classes.length : Int) < (m.classes.length : Int)) = false := by simp
        have HOK : Hid (ClassesOk m) := fun i c hc => unhide HA i c (List.getElem?_eq_some_iff.1 hc).1 hc
        have d0 := cellk (unhide HB) c0 (cell_lt c0)
        clear c0 c1 c2 HA hlt hk
        go_wp2_with fail
        go_loopg [59] m.funcs.length (fun gg i wr => ∃ k : Nat, k ≤ m.funcs.length ∧ gg = m.funcs.length - k ∧ i = .int .i64 k ∧ Hid (∀ (j : Nat) (g : PF), j < k → m.funcs[j]? = some g → FnErr m g 0) ∧ Hid (Below w.heap.size w wr))
        case atStart => exact ⟨0, Nat.zero_le _, rfl, rfl, fun j c hj => absurd hj (Nat.not_lt_zero j), unhide HB⟩
        case round =>
          obtain ⟨k, hk, rfl, rfl, HA, HB⟩ := hrel
          by_cases hlt : k < m.funcs.length
          · have hx : m.funcs[k]? = some (m.funcs[k]'hlt) := List.getElem?_eq_getElem _
            generalize (m.funcs[k]'hlt) = x at *
            have hk2 : (k : Int) < (m.funcs.length : Int) := by omega
            obtain ⟨gb, go, rfl, hF⟩ := FnAt.of_rows (unhide HRF) hlt (unhide HRR k x hx)
            have HF := hide hF
            have HX := hide hx
            have e0 := cellk (unhide HB) (unhide HC0) (cell_lt (unhide HC0))
            clear hx d0 hF
            go_wp2_with fail
            refine (checkFunc_any ((unhide H).keep (unhide HB)) ((unhide HF).keep (unhide HB)) (unhide HIN x (List.mem_of_getElem? (unhide HX)))).mono ?_
            rintro e w2 ⟨hb2, n, rfl, hn⟩
            have HB2 := hide ((unhide HB).trans (hb2.mono (unhide HB).size))
            have HN := hide hn
            clear hb2 hn
            by_cases h0 : n = 0
            · have hb0 : (n != 0) = false := by rw [bne_eq_false_iff_eq]; exact h0
              have H0 := hide h0
              clear h0
              go_wp2_with fail
              go_roundg (m.funcs.length - (k + 1))
              case measure => omega
              case rel =>
                refine ⟨k + 1, by omega, rfl, by go_num, fun j c hj hcj => ?_, unhide HB2⟩
                by_cases e : j = k
                · subst e
                  rw [unhide HX] at hcj
                  cases hcj
                  have := unhide HN
                  rwa [unhide H0] at this
                · exact unhide HA j c (by omega) hcj
            · have hb0 : (n != 0) = true := by rw [bne_iff_ne]; exact h0
              have H0 := hide h0
              clear h0
              go_wp2_with fail
              go_ret
              refine ⟨(unhide HB2).alloc (unhide HB2).size _, _, n, k, rfl, Or.inr (Or.inr ⟨_, rfl, hcell (hnew _ _) 0, hcell (hnew _ _) 1⟩), Or.inr (Or.inr ⟨unhide HL, unhide HOK, Or.inl ⟨k, x, unhide HX, unhide HN, unhide H0, rfl, unhide HA⟩⟩), fun q => absurd q (unhide H0)⟩
          · obtain rfl : k = m.funcs.length := by omega
            have hff2 : decide ((m.funcs.length : Int) < (m.funcs.length : Int)) = false := by simp
            clear d0 hlt hk
            go_wp2_with fail
            go_ret
            exact ⟨unhide HB, _, 0, -1, rfl, Or.inl ⟨rfl, rfl, rfl⟩, Or.inr (Or.inr ⟨unhide HL, unhide HOK, Or.inr ⟨rfl, rfl, fun j g hj => unhide HA j g (List.getElem?_eq_some_iff.1 hj).1 hj⟩⟩), fun _ => rfl⟩
end Go.Proofs.YtkafldkhmkdafaaGreatDoor
