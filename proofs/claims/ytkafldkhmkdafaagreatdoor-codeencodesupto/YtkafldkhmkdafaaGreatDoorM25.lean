/-
  Package code's writer: classes and functions.
  Package code's writer: lists of classes and functions.
  Images are read.
-/
import Derived.Test.YtkafldkhmkdafaaGreatDoorM24
namespace Go.Proofs.YtkafldkhmkdafaaGreatDoor
open Go.RowKit
theorem i64s2' {a b : Int} (ha : I64 a) (hb : I64 b) : ∀ n ∈ [a, b], I64 n := fun n hn => by
  simp at hn
  rcases hn with rfl | rfl
  · exact ha
  · exact hb

set_option maxRecDepth 100000 in
set_option maxHeartbeats 4000000 in
theorem cclass_any {w0 : World} {q : Nat} {o : Bool} {w : World} {bs : List Int} (h : Cw w0.heap.size q o w bs) (hw0 : Below w0.heap.size w0 w) (c : PK) {g2 g3 g4 : Option Addr} {c2 c3 c4 : Nat} (hF : RowsAt w0 g2 c.fields.length 1 (strRow c.fields)) (hN : RowsAt w0 g3 c.names.length 1 (strRow c.names)) (hM : RowsAt w0 g4 c.meths.length 1 (intRow c.meths)) (hok : okK c) (hlen : (bs ++ encK c).length ≤ 20000000) :
    Calls Tryz.prog 20 #[.pointer (some ⟨q, 0, none⟩), .agg #[.string c.name, .int .i64 c.above, .slice g2 c.fields.length c2, .slice g3 c.names.length c3, .slice g4 c.meths.length c4]] w fun e w' => CwPost w0.heap.size q w (bs ++ encK c) e w' := by
  have H := hide h
  have HW0 := hide hw0
  have HRF := hide hF
  have HRN := hide hN
  have HRM := hide hM
  have HOK := hide hok
  have hll := hlen
  rw [List.length_append] at hll
  unfold encK at hll
  simp only [List.length_append] at hll
  have HM1 := hide hok.2.2
  have hzl : (c.names.zip c.meths).length = c.names.length := by have := unhide HM1; rw [List.length_zip]; omega
  have hmany : c.names.length ≤ 20000000 := by have := flat_many (ok := fun _ => True) encP_pos (c.names.zip c.meths); omega
  have HLL := hide hll
  have HLEN := hide hlen
  have HSZ := hide h.sz
  have HQL := hide h.lt
  have HP := hide (hnew w (.cells #[.string c.name, .int .i64 c.above, .slice g2 c.fields.length c2, .slice g3 c.names.length c3, .slice g4 c.meths.length c4] 38))
  have HZL := hide hzl
  clear h hw0 hF hN hM hok hlen hll hzl
  go_enter Tryz.func20, Tryz.ntmps20
  go_wp2_with fail
  refine (ctext_any ((unhide H).alloc _) c.name (by have := unhide HLL; simp only [List.length_append]; omega)).mono ?_
  rintro e w1 ⟨rfl, hw1, hf1⟩
  have HF1 := hide hf1
  have HG1 := hide ((FrU.al (q := q) (unhide HSZ) _).trans hf1)
  have hp1 := hf1.keep w.heap.size _ _ _ (unhide HP) (by decide) (by have := unhide HQL; omega)
  have k1 : w1.cell? ⟨w.heap.size, 1, none⟩ = some (.int .i64 c.above) := hcell hp1 1
  have HP1 := hide hp1
  have H1 := hide hw1
  clear hw1 hf1 hp1
  go_wp2_with fail
  refine (cnum_any (unhide H1) (unhide HOK).1 (by have := unhide HLL; simp only [List.length_append]; omega)).mono ?_
  rintro e w2 ⟨rfl, hw2, hf2⟩
  have HG2 := hide ((unhide HG1).trans hf2)
  have hp2 := hf2.keep w.heap.size _ _ _ (unhide HP1) (by decide) (by have := unhide HQL; omega)
  have k2 : w2.cell? ⟨w.heap.size, 2, none⟩ = some (.slice g2 c.fields.length c2) := hcell hp2 2
  have HP2 := hide hp2
  have H2 := hide hw2
  clear hw2 hf2 hp2 k1
  go_wp2_with fail
  refine (wlS (unhide H2) ((unhide HW0).trans (unhide HG2).toBelow) c.fields (unhide HRF) (fun _ _ => trivial) (by have := unhide HLL; simp only [encL, List.length_append] at this ⊢; omega)).mono ?_
  rintro e w3 ⟨rfl, hw3, hf3⟩
  have HG3 := hide ((unhide HG2).trans hf3)
  have hp3 := hf3.keep w.heap.size _ _ _ (unhide HP2) (by decide) (by have := unhide HQL; omega)
  have k3 : w3.cell? ⟨w.heap.size, 3, none⟩ = some (.slice g3 c.names.length c3) := hcell hp3 3
  have HP3 := hide hp3
  have H3 := hide hw3
  clear hw3 hf3 hp3 k2
  go_wp2_with fail
  refine (cnum_any (unhide H3) (n := (c.names.length : Int)) ⟨by omega, by omega⟩ (by have := unhide HLL; simp only [encL, List.length_append] at this ⊢; omega)).mono ?_
  rintro e w4 ⟨rfl, hw4, hf4⟩
  have HG4 := hide ((unhide HG3).trans hf4)
  have hp4 := hf4.keep w.heap.size _ _ _ (unhide HP3) (by decide) (by have := unhide HQL; omega)
  have k4 : w4.cell? ⟨w.heap.size, 3, none⟩ = some (.slice g3 c.names.length c3) := hcell hp4 3
  have HP4 := hide hp4
  obtain ⟨cur, hcur⟩ : ∃ cur, bs ++ encT c.name ++ encN c.above ++ encL encT c.fields ++ encN c.names.length = cur := ⟨_, rfl⟩
  have HEQ := hide (show bs ++ encK c = cur ++ (c.names.zip c.meths).flatMap encP by rw [← hcur]; simp [encK])
  have HLC := hide (show (cur ++ (c.names.zip c.meths).flatMap encP).length ≤ 20000000 from by have := unhide HLEN; rwa [unhide HEQ] at this)
  rw [hcur] at hw4
  have H4 := hide hw4
  clear hw4 hf4 hp4 k3 hcur
  go_wp2_with fail
  go_loopg [29] c.names.length (fun gg i wr => ∃ (k : Nat), k ≤ c.names.length ∧ gg = c.names.length - k ∧ i = .int .i64 k ∧ Hid (Cw w0.heap.size q true wr (cur ++ ((c.names.zip c.meths).take k).flatMap encP) ∧ FrU w0.heap.size q w4 wr))
  case atStart => exact ⟨0, Nat.zero_le _, rfl, rfl, by simpa using unhide H4, FrU.refl _ _ _⟩
  case round =>
    clear k4
    obtain ⟨k, hk, rfl, rfl, HY⟩ := hrel
    have HGr := hide ((unhide HG4).trans (unhide HY).2)
    by_cases hlk : k < c.names.length
    · have hk2 : (k : Int) < (c.names.length : Int) := by omega
      have hk3 : (k : Int) < (c.meths.length : Int) := by have := unhide HM1; omega
      obtain ⟨x, hx⟩ : ∃ x, c.names[k]? = some x := ⟨c.names[k], List.getElem?_eq_getElem hlk⟩
      obtain ⟨m, hm⟩ : ∃ m, c.meths[k]? = some m := ⟨c.meths[k]'(by have := unhide HM1; omega), List.getElem?_eq_getElem _⟩
      have hz : (c.names.zip c.meths)[k]? = some (x, m) := by
        rw [List.getElem?_zip_eq_some]
        exact ⟨hx, hm⟩
      obtain ⟨gb, go, rfl, hcs⟩ := (unhide HRN).keep ((unhide HW0).trans (unhide HGr).toBelow) k hlk
      have c0 : wr.cell? ⟨gb, go + k, none⟩ = some (.string x) := by
        have := hcs 0 (by omega)
        rw [strRow, hx] at this
        simpa using this
      have HZ := hide hz
      have HMI := hide ((unhide HOK).2.1 m (List.mem_of_getElem? hm))
      have HM := hide hm
      have hlx := Nat.le_trans (flat_next (enc := encP) hz cur) (unhide HLC)
      simp only [encP, List.length_append] at hlx
      have HLX := hide hlx
      clear hx hcs hz hm hlx
      go_wp2_with fail
      refine (ctext_any (unhide HY).1 x (by have := unhide HLX; simp only [List.length_append]; omega)).mono ?_
      rintro e w5 ⟨rfl, hw5, hf5⟩
      have hp5 := ((unhide HY).2.trans hf5).keep w.heap.size _ _ _ (unhide HP4) (by decide) (by have := unhide HQL; omega)
      have k5 : w5.cell? ⟨w.heap.size, 4, none⟩ = some (.slice g4 c.meths.length c4) := hcell hp5 4
      obtain ⟨mb, mo, rfl, hms⟩ := (unhide HRM).keep ((unhide HW0).trans ((unhide HGr).trans hf5).toBelow) k (by have := unhide HM1; omega)
      have d0 : w5.cell? ⟨mb, mo + k, none⟩ = some (.int .i64 m) := by
        have := hms 0 (by omega)
        rw [intRow, unhide HM] at this
        simpa using this
      have H5 := hide hw5
      have HF5 := hide ((unhide HY).2.trans hf5)
      clear hw5 hf5 hp5 hms c0
      go_wp2_with fail
      refine (cnum_any (unhide H5) (unhide HMI) (by have := unhide HLX; simp only [List.length_append]; omega)).mono ?_
      rintro e w6 ⟨rfl, hw6, hf6⟩
      have H6 := hide hw6
      have HF6 := hide ((unhide HF5).trans hf6)
      clear hw6 hf6 d0 k5
      go_wp2_with fail
      go_roundg (c.names.length - (k + 1))
      case measure => omega
      case rel =>
        refine ⟨k + 1, by omega, rfl, by go_num, ?_, unhide HF6⟩
        rw [take_next (unhide HZ), List.flatMap_append, ← List.append_assoc]
        simpa [encP] using unhide H6
    · have hk2 : ¬ (k : Int) < (c.names.length : Int) := by omega
      go_wp2_with fail
      go_end0
      rw [unhide HEQ]
      refine ⟨rfl, ?_, unhide HGr⟩
      have := (unhide HY).1
      rw [List.take_of_length_le (by have := unhide HZL; omega)] at this
      exact this

set_option maxRecDepth 100000 in
set_option maxHeartbeats 4000000 in
theorem cfunc_any {w0 : World} {q : Nat} {o : Bool} {w : World} {bs : List Int} (h : Cw w0.heap.size q o w bs) (hw0 : Below w0.heap.size w0 w) (f : PF) {g3 g4 g5 : Option Addr} {c3 c4 c5 : Nat} (hC : RowsAt w0 g3 f.code.length 3 (instrRow f.code)) (hH : RowsAt w0 g4 f.hands.length 3 (handRow f.hands)) (hV : RowsAt w0 g5 f.vars.length 5 (varRow f.vars)) (hok : okF f) (hlen : (bs ++ encF f).length ≤ 20000000) :
    Calls Tryz.prog 22 #[.pointer (some ⟨q, 0, none⟩), .agg #[.string f.name, .int .i64 f.params, .int .i64 f.slots, .slice g3 f.code.length c3, .slice g4 f.hands.length c4, .slice g5 f.vars.length c5]] w fun e w' => CwPost w0.heap.size q w (bs ++ encF f) e w' := by
  have H := hide h
  have HW0 := hide hw0
  have HRC := hide hC
  have HRH := hide hH
  have HRV := hide hV
  have HOK := hide hok
  have hll := hlen
  rw [List.length_append] at hll
  unfold encF at hll
  simp only [List.length_append] at hll
  have HLL := hide hll
  have HSZ := hide h.sz
  have HQL := hide h.lt
  have hx0 : w.heap.size < (w.alloc (.cells #[.pointer (some ⟨q, 0, none⟩)] 84)).heap.size := by simp
  have HX := hide ((Below.heap_alloc (w.alloc (.cells #[.pointer (some ⟨q, 0, none⟩)] 84)) (.cells #[.string f.name, .int .i64 f.params, .int .i64 f.slots, .slice g3 f.code.length c3, .slice g4 f.hands.length c4, .slice g5 f.vars.length c5] 54) w.heap.size hx0).trans (hnew w _))
  have HP := hide (hnew' (w.alloc (.cells #[.pointer (some ⟨q, 0, none⟩)] 84)) (.cells #[.string f.name, .int .i64 f.params, .int .i64 f.slots, .slice g3 f.code.length c3, .slice g4 f.hands.length c4, .slice g5 f.vars.length c5] 54) (n := w.heap.size + 1) (by simp))
  have HG0 : Hid (FrU w0.heap.size q w ((w.alloc (.cells #[.pointer (some ⟨q, 0, none⟩)] 84)).alloc (.cells #[.string f.name, .int .i64 f.params, .int .i64 f.slots, .slice g3 f.code.length c3, .slice g4 f.hands.length c4, .slice g5 f.vars.length c5] 54))) := (FrU.al (q := q) (unhide HSZ) _).trans (FrU.al (q := q) (by have := unhide HSZ; simp; omega) _)
  clear h hw0 hC hH hV hok hlen hll hx0
  go_enter Tryz.func22, Tryz.ntmps22
  go_wp2_with fail
  refine (ctext_any (((unhide H).alloc _).alloc _) f.name (by have := unhide HLL; simp only [List.length_append]; omega)).mono ?_
  rintro e w1 ⟨rfl, hw1, hf1⟩
  have HG1 := hide ((unhide HG0).trans hf1)
  have hp1 := hf1.keep (w.heap.size + 1) _ _ _ (unhide HP) (by decide) (by have := unhide HQL; omega)
  have hx1 := hf1.keep w.heap.size _ _ _ (unhide HX) (by decide) (by have := unhide HQL; omega)
  have y1 : w1.cell? ⟨w.heap.size, 0, none⟩ = some (.pointer (some ⟨q, 0, none⟩)) := hcell hx1 0
  have k1 : w1.cell? ⟨w.heap.size + 1, 1, none⟩ = some (.int .i64 f.params) := hcell hp1 1
  have k1b : w1.cell? ⟨w.heap.size + 1, 2, none⟩ = some (.int .i64 f.slots) := hcell hp1 2
  have HP1 := hide hp1
  have HX1 := hide hx1
  have H1 := hide hw1
  have hsz1 := hw1.sz
  have hql1 := hw1.lt
  clear hw1 hf1 hp1 hx1
  go_wp2_with fail
  refine (cnums_any (nb := w1.heap.size) ((unhide H1).alloc _) [f.params, f.slots] (i64s2' (unhide HOK).1 (unhide HOK).2.1) (by have := unhide HLL; simp only [List.length_append, List.flatMap_cons, List.flatMap_nil, List.length_nil]; omega) (by simp) (by simp) (hnew _ _) (by omega) 2).mono ?_
  rintro e w2 ⟨rfl, hw2, hf2'⟩
  have hf2 := (FrU.al (q := q) hsz1 (.cells #[.int .i64 f.params, .int .i64 f.slots] 3)).trans hf2'
  have HG2 := hide ((unhide HG1).trans hf2)
  have hp2 := hf2.keep (w.heap.size + 1) _ _ _ (unhide HP1) (by decide) (by have := unhide HQL; omega)
  have hx2 := hf2.keep w.heap.size _ _ _ (unhide HX1) (by decide) (by have := unhide HQL; omega)
  have y2 : w2.cell? ⟨w.heap.size, 0, none⟩ = some (.pointer (some ⟨q, 0, none⟩)) := hcell hx2 0
  have k2 : w2.cell? ⟨w.heap.size + 1, 3, none⟩ = some (.slice g3 f.code.length c3) := hcell hp2 3
  have HP2 := hide hp2
  have HX2 := hide hx2
  have H2 := hide hw2
  clear hw2 hf2 hf2' hp2 hx2 y1 k1 k1b hsz1 hql1
  go_wp2_with fail
  refine (wlI (unhide H2) ((unhide HW0).trans (unhide HG2).toBelow) (unhide HX2) (by have := unhide HQL; omega) f.code (unhide HRC) (unhide HOK).2.2.1 (by have := unhide HLL; simp only [encL, List.length_append, List.flatMap_cons, List.flatMap_nil, List.length_nil] at this ⊢; omega)).mono ?_
  rintro e w3 ⟨rfl, hw3, hf3⟩
  have HG3 := hide ((unhide HG2).trans hf3)
  have hp3 := hf3.keep (w.heap.size + 1) _ _ _ (unhide HP2) (by decide) (by have := unhide HQL; omega)
  have hx3 := hf3.keep w.heap.size _ _ _ (unhide HX2) (by decide) (by have := unhide HQL; omega)
  have y3 : w3.cell? ⟨w.heap.size, 0, none⟩ = some (.pointer (some ⟨q, 0, none⟩)) := hcell hx3 0
  have k3 : w3.cell? ⟨w.heap.size + 1, 4, none⟩ = some (.slice g4 f.hands.length c4) := hcell hp3 4
  have HP3 := hide hp3
  have HX3 := hide hx3
  have H3 := hide hw3
  clear hw3 hf3 hp3 hx3 y2 k2
  go_wp2_with fail
  refine (wlH (unhide H3) ((unhide HW0).trans (unhide HG3).toBelow) (unhide HX3) (by have := unhide HQL; omega) f.hands (unhide HRH) (unhide HOK).2.2.2.1 (by have := unhide HLL; simp only [encL, List.length_append, List.flatMap_cons, List.flatMap_nil, List.length_nil] at this ⊢; omega)).mono ?_
  rintro e w4 ⟨rfl, hw4, hf4⟩
  have HG4 := hide ((unhide HG3).trans hf4)
  have hp4 := hf4.keep (w.heap.size + 1) _ _ _ (unhide HP3) (by decide) (by have := unhide HQL; omega)
  have hx4 := hf4.keep w.heap.size _ _ _ (unhide HX3) (by decide) (by have := unhide HQL; omega)
  have y4 : w4.cell? ⟨w.heap.size, 0, none⟩ = some (.pointer (some ⟨q, 0, none⟩)) := hcell hx4 0
  have k4 : w4.cell? ⟨w.heap.size + 1, 5, none⟩ = some (.slice g5 f.vars.length c5) := hcell hp4 5
  have HP4 := hide hp4
  have HX4 := hide hx4
  have H4 := hide hw4
  clear hw4 hf4 hp4 hx4 y3 k3
  go_wp2_with fail
  refine (wlV (unhide H4) ((unhide HW0).trans (unhide HG4).toBelow) (unhide HX4) (by have := unhide HQL; omega) f.vars (unhide HRV) (unhide HOK).2.2.2.2 (by have := unhide HLL; simp only [encL, List.length_append, List.flatMap_cons, List.flatMap_nil, List.length_nil] at this ⊢; omega)).mono ?_
  rintro e w5 ⟨rfl, hw5, hf5⟩
  have HG5 := hide ((unhide HG4).trans hf5)
  have H5 := hide hw5
  clear hw5 hf5 y4 k4
  go_wp2_with fail
  go_end0
  refine ⟨rfl, ?_, unhide HG5⟩
  have := unhide H5
  simpa [encF] using this
end Go.Proofs.YtkafldkhmkdafaaGreatDoor

namespace Go.Proofs.YtkafldkhmkdafaaGreatDoor
open Go.RowKit

set_option maxRecDepth 100000 in
set_option maxHeartbeats 4000000 in
theorem wlK {w0 : World} {q : Nat} {o : Bool} {w : World} {bs : List Int} (h : Cw w0.heap.size q o w bs) (hw0 : Below w0.heap.size w0 w) {g : Option Addr} {cap : Nat} (xs : List PK) {R : Nat → Nat → Value} (hR : RowsAt w0 g xs.length 5 R) (hRR : ∀ i x, xs[i]? = some x → KdIs w0 (R i) x) (hok : ∀ x ∈ xs, okK x) (hlen : (bs ++ encL encK xs).length ≤ 20000000) :
    Calls Tryz.prog 19 #[.pointer (some ⟨q, 0, none⟩), .slice g xs.length cap, .func (.func 20) #[.pointer (some ⟨q, 0, none⟩)] #[]] w fun e w' => CwPost w0.heap.size q w (bs ++ encL encK xs) e w' := by
  have H := hide h
  have HW0 := hide hw0
  have HR := hide hR
  have HRR := hide hRR
  have HOK := hide hok
  have hll := hlen
  simp only [encL, List.length_append] at hll
  have hmany : xs.length ≤ 20000000 := by have := flat_many (ok := fun _ => True) encK_pos xs; omega
  have HLEN := hide (show ((bs ++ encN xs.length) ++ xs.flatMap encK).length ≤ 20000000 by simp only [List.length_append]; omega)
  clear h hw0 hR hRR hok hlen hll
  go_enter Tryz.func19, Tryz.ntmps19
  go_wp2_with fail
  refine (cnum_any (unhide H) (n := (xs.length : Int)) ⟨by omega, by omega⟩ (by have := unhide HLEN; simp only [List.length_append] at this ⊢; omega)).mono ?_
  rintro e w1 ⟨rfl, hw1, hf1⟩
  have H1 := hide hw1
  have HF1 := hide hf1
  clear hw1 hf1
  go_wp2_with fail
  go_loopg [14] xs.length (fun gg i wr => ∃ (k : Nat), k ≤ xs.length ∧ gg = xs.length - k ∧ i = .int .i64 k ∧ Hid (Cw w0.heap.size q true wr ((bs ++ encN xs.length) ++ (xs.take k).flatMap encK) ∧ FrU w0.heap.size q w wr))
  case atStart => exact ⟨0, Nat.zero_le _, rfl, rfl, by simpa using unhide H1, unhide HF1⟩
  case round =>
    obtain ⟨k, hk, rfl, rfl, HY⟩ := hrel
    by_cases hlk : k < xs.length
    · have hk2 : (k : Int) < (xs.length : Int) := by omega
      obtain ⟨x, hx⟩ : ∃ x, xs[k]? = some x := ⟨xs[k], List.getElem?_eq_getElem hlk⟩
      obtain ⟨E0, E1, ⟨g2, d2, E2, _, r2⟩, ⟨g3, d3, E3, _, r3⟩, ⟨g4, d4, E4, _, r4⟩⟩ := (unhide HRR) k x hx
      have R2 := hide r2
      have R3 := hide r3
      have R4 := hide r4
      clear r2 r3 r4
      obtain ⟨gb, go, rfl, hcs⟩ := (unhide HR).keep ((unhide HW0).trans (unhide HY).2.toBelow) k hlk
      have c0 : wr.cell? ⟨gb, go + k * 5, none⟩ = some (.string x.name) := by
        have := hcs 0 (by omega)
        rw [E0] at this
        simpa using this
      have c1 : wr.cell? ⟨gb, go + k * 5 + 1, none⟩ = some (.int .i64 x.above) := by
        have := hcs 1 (by omega)
        rw [E1] at this
        simpa using this
      have c2 : wr.cell? ⟨gb, go + k * 5 + 2, none⟩ = some (.slice g2 x.fields.length d2) := by
        have := hcs 2 (by omega)
        rw [E2] at this
        simpa using this
      have c3 : wr.cell? ⟨gb, go + k * 5 + 3, none⟩ = some (.slice g3 x.names.length d3) := by
        have := hcs 3 (by omega)
        rw [E3] at this
        simpa using this
      have c4 : wr.cell? ⟨gb, go + k * 5 + 4, none⟩ = some (.slice g4 x.meths.length d4) := by
        have := hcs 4 (by omega)
        rw [E4] at this
        simpa using this
      have HX := hide hx
      have HOX := hide ((unhide HOK) x (List.mem_of_getElem? hx))
      have HLX := hide (Nat.le_trans (flat_next (enc := encK) hx (bs ++ encN xs.length)) (unhide HLEN))
      clear hx hcs E0 E1 E2 E3 E4
      go_wp2_with fail
      refine (cclass_any ((unhide HY).1.alloc _) ((unhide HW0).trans ((unhide HY).2.trans (FrU.al (q := q) (unhide HY).1.sz _)).toBelow) x (unhide R2) (unhide R3) (unhide R4) (unhide HOX) (unhide HLX)).mono ?_
      rintro e w3 ⟨rfl, hw3, hf3⟩
      have H3 := hide hw3
      have HF3 := hide ((unhide HY).2.trans ((FrU.al (q := q) (unhide HY).1.sz _).trans hf3))
      clear hw3 hf3 c0 c1 c2 c3 c4
      go_wp2_with fail
      go_roundg (xs.length - (k + 1))
      case measure => omega
      case rel =>
        refine ⟨k + 1, by omega, rfl, by go_num, ?_, unhide HF3⟩
        rw [take_next (unhide HX), List.flatMap_append, ← List.append_assoc]
        simpa using unhide H3
    · have hk2 : ¬ (k : Int) < (xs.length : Int) := by omega
      go_wp2_with fail
      go_end0
      refine ⟨rfl, ?_, (unhide HY).2⟩
      have := (unhide HY).1
      rw [List.take_of_length_le (by omega), List.append_assoc] at this
      exact this

set_option maxRecDepth 100000 in
set_option maxHeartbeats 4000000 in
theorem wlF {w0 : World} {q : Nat} {o : Bool} {w : World} {bs : List Int} (h : Cw w0.heap.size q o w bs) (hw0 : Below w0.heap.size w0 w) {g : Option Addr} {cap : Nat} (xs : List PF) {R : Nat → Nat → Value} (hR : RowsAt w0 g xs.length 6 R) (hRR : ∀ i x, xs[i]? = some x → FnIs w0 (R i) x) (hok : ∀ x ∈ xs, okF x) (hlen : (bs ++ encL encF xs).length ≤ 20000000) :
    Calls Tryz.prog 21 #[.pointer (some ⟨q, 0, none⟩), .slice g xs.length cap, .func (.func 22) #[.pointer (some ⟨q, 0, none⟩)] #[]] w fun e w' => CwPost w0.heap.size q w (bs ++ encL encF xs) e w' := by
  have H := hide h
  have HW0 := hide hw0
  have HR := hide hR
  have HRR := hide hRR
  have HOK := hide hok
  have hll := hlen
  simp only [encL, List.length_append] at hll
  have hmany : xs.length ≤ 20000000 := by have := flat_many (ok := fun _ => True) encF_pos xs; omega
  have HLEN := hide (show ((bs ++ encN xs.length) ++ xs.flatMap encF).length ≤ 20000000 by simp only [List.length_append]; omega)
  clear h hw0 hR hRR hok hlen hll
  go_enter Tryz.func21, Tryz.ntmps21
  go_wp2_with fail
  refine (cnum_any (unhide H) (n := (xs.length : Int)) ⟨by omega, by omega⟩ (by have := unhide HLEN; simp only [List.length_append] at this ⊢; omega)).mono ?_
  rintro e w1 ⟨rfl, hw1, hf1⟩
  have H1 := hide hw1
  have HF1 := hide hf1
  clear hw1 hf1
  go_wp2_with fail
  go_loopg [14] xs.length (fun gg i wr => ∃ (k : Nat), k ≤ xs.length ∧ gg = xs.length - k ∧ i = .int .i64 k ∧ Hid (Cw w0.heap.size q true wr ((bs ++ encN xs.length) ++ (xs.take k).flatMap encF) ∧ FrU w0.heap.size q w wr))
  case atStart => exact ⟨0, Nat.zero_le _, rfl, rfl, by simpa using unhide H1, unhide HF1⟩
  case round =>
    obtain ⟨k, hk, rfl, rfl, HY⟩ := hrel
    by_cases hlk : k < xs.length
    · have hk2 : (k : Int) < (xs.length : Int) := by omega
      obtain ⟨x, hx⟩ : ∃ x, xs[k]? = some x := ⟨xs[k], List.getElem?_eq_getElem hlk⟩
      obtain ⟨E0, E1, E2, ⟨g3, d3, E3, _, r3⟩, ⟨g4, d4, E4, _, r4⟩, ⟨g5, d5, E5, _, r5⟩⟩ := (unhide HRR) k x hx
      have R3 := hide r3
      have R4 := hide r4
      have R5 := hide r5
      clear r3 r4 r5
      obtain ⟨gb, go, rfl, hcs⟩ := (unhide HR).keep ((unhide HW0).trans (unhide HY).2.toBelow) k hlk
      have c0 : wr.cell? ⟨gb, go + k * 6, none⟩ = some (.string x.name) := by
        have := hcs 0 (by omega)
        rw [E0] at this
        simpa using this
      have c1 : wr.cell? ⟨gb, go + k * 6 + 1, none⟩ = some (.int .i64 x.params) := by
        have := hcs 1 (by omega)
        rw [E1] at this
        simpa using this
      have c2 : wr.cell? ⟨gb, go + k * 6 + 2, none⟩ = some (.int .i64 x.slots) := by
        have := hcs 2 (by omega)
        rw [E2] at this
        simpa using this
      have c3 : wr.cell? ⟨gb, go + k * 6 + 3, none⟩ = some (.slice g3 x.code.length d3) := by
        have := hcs 3 (by omega)
        rw [E3] at this
        simpa using this
      have c4 : wr.cell? ⟨gb, go + k * 6 + 4, none⟩ = some (.slice g4 x.hands.length d4) := by
        have := hcs 4 (by omega)
        rw [E4] at this
        simpa using this
      have c5 : wr.cell? ⟨gb, go + k * 6 + 5, none⟩ = some (.slice g5 x.vars.length d5) := by
        have := hcs 5 (by omega)
        rw [E5] at this
        simpa using this
      have HX := hide hx
      have HOX := hide ((unhide HOK) x (List.mem_of_getElem? hx))
      have HLX := hide (Nat.le_trans (flat_next (enc := encF) hx (bs ++ encN xs.length)) (unhide HLEN))
      clear hx hcs E0 E1 E2 E3 E4 E5
      go_wp2_with fail
      refine (cfunc_any ((unhide HY).1.alloc _) ((unhide HW0).trans ((unhide HY).2.trans (FrU.al (q := q) (unhide HY).1.sz _)).toBelow) x (unhide R3) (unhide R4) (unhide R5) (unhide HOX) (unhide HLX)).mono ?_
      rintro e w3 ⟨rfl, hw3, hf3⟩
      have H3 := hide hw3
      have HF3 := hide ((unhide HY).2.trans ((FrU.al (q := q) (unhide HY).1.sz _).trans hf3))
      clear hw3 hf3 c0 c1 c2 c3 c4 c5
      go_wp2_with fail
      go_roundg (xs.length - (k + 1))
      case measure => omega
      case rel =>
        refine ⟨k + 1, by omega, rfl, by go_num, ?_, unhide HF3⟩
        rw [take_next (unhide HX), List.flatMap_append, ← List.append_assoc]
        simpa using unhide H3
    · have hk2 : ¬ (k : Int) < (xs.length : Int) := by omega
      go_wp2_with fail
      go_end0
      refine ⟨rfl, ?_, (unhide HY).2⟩
      have := (unhide HY).1
      rw [List.take_of_length_le (by omega), List.append_assoc] at this
      exact this

end Go.Proofs.YtkafldkhmkdafaaGreatDoor

namespace Go.Proofs.YtkafldkhmkdafaaGreatDoor
open Go.RowKit
attribute [local go_sem ↓] Go.wp_at_zero Go.wp_at_succ

/-- An image at block ib that is being read. -/
structure IHd (r : Nat) (l : List Int) (w : World) (ib : Nat) (cs : Array Value) (l3 : List Int) (b3 : Bool) (wc : World) : Prop where
  rd : RdAt wc r l3 b3
  ext : Ext r w wc
  far : w.heap.size ≤ ib
  blk : wc.heap[ib]? = some (.cells cs 26 (0, 0))
  le : l3.length ≤ l.length
  rlt : r < w.heap.size
theorem IHd.put {r : Nat} {l : List Int} {w : World} {ib : Nat} {cs : Array Value} {l3 : List Int} {b3 : Bool} {wc : World} (h : IHd r l w ib cs l3 b3 wc) {w4 : World} {l4 : List Int} {b4 : Bool} (hr : RdAt w4 r l4 b4) (he : Ext r wc w4) (hl : l4.length ≤ l3.length) (i : Nat) (v : Value) :
    IHd r l w ib (cs.setIfInBounds i v) l4 b4 (w4.setCell ⟨ib, i, none⟩ v) := by
  have hf := h.far
  have hr0 := h.rlt
  exact ⟨hr.setFar (by omega) i v, (h.ext.trans he).setNew (by omega) i v, h.far, hset ((he.block ib (hlt h.blk) (by omega)).trans h.blk) i v, Nat.le_trans hl h.le, h.rlt⟩
theorem IHd.blk4 {r : Nat} {l : List Int} {w : World} {ib : Nat} {cs : Array Value} {l3 : List Int} {b3 : Bool} {wc : World} (h : IHd r l w ib cs l3 b3 wc) {w4 : World} (he : Ext r wc w4) : w4.heap[ib]? = some (.cells cs 26 (0, 0)) :=
  (he.block ib (hlt h.blk) (by have := h.far; have := h.rlt; omega)).trans h.blk
def okM (m : PM) : Prop := (∀ c ∈ m.consts, okC c) ∧ (∀ c ∈ m.classes, okK c) ∧ ∀ f ∈ m.funcs, okF f
theorem telM_cpl {wb b2 d1 d2 d3 : Bool} {l l2 m1 m2 : List Int} {Q1 Q2 Q3 : Prop} (h0 : wb = false → ∀ l0, l = [82, 87, 78, 68] ++ l0 → b2 = false ∧ l2 = ([82, 87, 78, 68] : List Int).drop 4 ++ l0) (h1 : TelL okC encC Q1 b2 d1 l2) (q1 : Q1 → ∃ xs, (∀ x ∈ xs, okC x) ∧ l2 = encL encC xs ++ m1)
    (h2 : TelL okK encK Q2 d1 d2 m1) (q2 : Q2 → ∃ xs, (∀ x ∈ xs, okK x) ∧ m1 = encL encK xs ++ m2) (h3 : TelL okF encF Q3 d2 d3 m2) : wb = false → ∀ (m : PM) (l0 : List Int), okM m → l = encM m ++ l0 → d3 = false := fun q m l0 hm e => by
  simp only [encM, List.append_assoc] at e
  obtain ⟨r0, r1⟩ := h0 q _ e
  obtain ⟨r3, r4⟩ := h1.same encC_pf q1 r0 hm.1 r1
  obtain ⟨r5, r6⟩ := h2.same encK_pf q2 r3 hm.2.1 r4
  exact h3.cpl r5 _ _ hm.2.2 r6
theorem encM_pf : Sure okM encM := fun x y l l' hx hy e => by
  simp only [encM, List.append_assoc, List.cons_append, List.nil_append, List.cons.injEq, true_and] at e
  obtain ⟨a1, e⟩ := encL_pf encC_pf _ _ _ _ hx.1 hy.1 e
  obtain ⟨a2, e⟩ := encL_pf encK_pf _ _ _ _ hx.2.1 hy.2.1 e
  obtain ⟨a3, e⟩ := encL_pf encF_pf _ _ _ _ hx.2.2 hy.2.2 e
  refine ⟨?_, e⟩
  cases x
  cases y
  simp_all
def ImgGot (r : Nat) (l : List Int) (wb : Bool) (w : World) (e : Ending) (w' : World) : Prop :=
  ∃ (ib : Nat) (l' : List Int) (wb' : Bool), e = .returned (.pointer (some ⟨ib, 0, none⟩)) ∧ RdAt w' r l' wb' ∧ Ext r w w' ∧ l'.length ≤ l.length ∧ w.heap.size ≤ ib ∧
    TelQ okM encM (∃ m vf vc vk, (∀ w'', Ext r w' w'' → ImgAt w'' ib m vf vc vk) ∧ okM m ∧ l = encM m ++ l') wb wb' l
/-- So much of the mark was read. -/
def MarkInv (r : Nat) (l : List Int) (wb : Bool) (w : World) (k : Nat) (wr : World) : Prop :=
  ∃ l2 wb2, RdAt wr r l2 wb2 ∧ Ext r w wr ∧ l2.length ≤ l.length ∧ (wb2 = false → wb = false ∧ l = ([82, 87, 78, 68] : List Int).take k ++ l2) ∧ (wb = false → ∀ l0, l = [82, 87, 78, 68] ++ l0 → wb2 = false ∧ l2 = ([82, 87, 78, 68] : List Int).drop k ++ l0)
/-- All lists' blocks but the reader and the image stay. -/
theorem FnOwn.keep2 {w w' : World} {B r ib : Nat} {v : Value} {C : Nat → Value} {f : PF} (h : FnOwn w (noB B v) C f) (hr : r < B) (hi : ib < B) (hs : w.heap.size ≤ w'.heap.size) (hb : ∀ j, j < w.heap.size → j ≠ r → j ≠ ib → w'.heap[j]? = w.heap[j]?) : FnOwn w' (noB B v) C f :=
  h.move hs (fun j hj hn => hb j hj (fun e => hn (Or.inl (by omega))) (fun e => hn (Or.inl (by omega)))) (fun _ _ q => q)
theorem KdOwn.keep2 {w w' : World} {B r ib : Nat} {v : Value} {C : Nat → Value} {f : PK} (h : KdOwn w (noB B v) C f) (hr : r < B) (hi : ib < B) (hs : w.heap.size ≤ w'.heap.size) (hb : ∀ j, j < w.heap.size → j ≠ r → j ≠ ib → w'.heap[j]? = w.heap[j]?) : KdOwn w' (noB B v) C f :=
  h.move hs (fun j hj hn => hb j hj (fun e => hn (Or.inl (by omega))) (fun e => hn (Or.inl (by omega)))) (fun _ _ q => q)

set_option maxRecDepth 100000 in
set_option maxHeartbeats 8000000 in
theorem rimage_any {w : World} {r : Nat} {l : List Int} {wb : Bool} (h : RdAt w r l wb) :
    Calls Tryz.prog 25 #[.pointer (some ⟨r, 0, none⟩)] w fun e w' => ImgGot r l wb w e w' := by
  have hrl := h.lt
  have HRL := hide hrl
  have H := hide h
  clear h
  go_enter Tryz.func25, Tryz.ntmps25
  go_wp2_with fail
  go_loopg [5] 4 (fun gg i wr => ∃ (k : Nat), k ≤ 4 ∧ gg = 4 - k ∧ i = .int .i64 k ∧ Hid (MarkInv r l wb w k wr))
  case atStart => exact ⟨0, by omega, rfl, rfl, l, wb, unhide H, Ext.refl _ _, Nat.le_refl _, (fun q => ⟨q, rfl⟩), fun q l0 e => ⟨q, e⟩⟩
  case round =>
    obtain ⟨k, hk, rfl, rfl, HY⟩ := hrel
    obtain ⟨l2, wb2, hr2, he2, hl2, hw2, hc2⟩ := unhide HY
    have HC2 := hide hc2
    have HR2 := hide hr2
    have HE2 := hide he2
    have HL2 := hide hl2
    have HW2 := hide hw2
    have HRD : Hid (RdAt wr.drew r l2 wb2) := hr2.keep (Below.drew (Below.refl _ _))
    clear hr2 he2 hl2 hw2 hc2 HY
    rcases (show k = 4 ∨ k = 0 ∨ k = 1 ∨ k = 2 ∨ k = 3 by omega) with rfl | hk4
    · obtain ⟨wc, hwc⟩ : ∃ wc, wr.alloc (.cells #[.slice none 0 0, .slice none 0 0, .slice none 0 0] 26) = wc := ⟨_, rfl⟩
      obtain ⟨ib, hib⟩ : ∃ ib, wr.heap.size = ib := ⟨_, rfl⟩
      have hbc : Below wr.heap.size wr wc := by rw [← hwc]; exact (Below.refl _ _).alloc (Nat.le_refl _) _
      have HD : Hid (IHd r l w ib #[.slice none 0 0, .slice none 0 0, .slice none 0 0] l2 wb2 wc) := ⟨(unhide HR2).keep hbc, (unhide HE2).trans (Ext.of_below hbc), by rw [← hib]; exact (unhide HE2).size, by rw [← hwc, ← hib]; exact hnew _ _, unhide HL2, unhide HRL⟩
      clear hbc
      go_wp2_with fail
      try rw [hwc]
      clear hwc
      refine (listC (unhide HD).rd).mono ?_
      rintro e u1 ⟨gc, nc, ccc, m1, d1, rfl, hr, he, hl, hw⟩
      have kb := (unhide HD).blk4 he
      have z1 := hcell kb 1
      have y1 := hfroz kb 1
      have HD1 := hide ((unhide HD).put hr he hl 1 (.slice gc nc ccc))
      have HX1 := hide hw
      have HG1 := hide he
      obtain ⟨v1, hv1⟩ : ∃ v1, u1.setCell ⟨ib, 1, none⟩ (.slice gc nc ccc) = v1 := ⟨_, rfl⟩
      rw [hv1] at HD1
      have HV1 := hide hv1
      clear hr he hl hw kb
      go_wp2_with fail
      clear z1 y1
      refine (listK (unhide HD1).rd).mono ?_
      rintro e u2 ⟨gk, nk, cck, m2, d2, rfl, hr, he, hl, hw⟩
      have kb := (unhide HD1).blk4 he
      have z2 := hcell kb 2
      have y2 := hfroz kb 2
      have HD2 := hide ((unhide HD1).put hr he hl 2 (.slice gk nk cck))
      have HX2 := hide hw
      have HG2 := hide he
      obtain ⟨v2, hv2⟩ : ∃ v2, u2.setCell ⟨ib, 2, none⟩ (.slice gk nk cck) = v2 := ⟨_, rfl⟩
      rw [hv2] at HD2
      have HV2 := hide hv2
      clear hr he hl hw kb
      go_wp2_with fail
      clear z2 y2
      refine (listF (unhide HD2).rd).mono ?_
      rintro e u3 ⟨gf, nf, ccf, m3, d3, rfl, hr, he, hl, hw⟩
      have kb := (unhide HD2).blk4 he
      have z3 := hcell kb 0
      have y3 := hfroz kb 0
      have HD3 := hide ((unhide HD2).put hr he hl 0 (.slice gf nf ccf))
      have HX3 := hide hw
      have HG3 := hide he
      obtain ⟨v3, hv3⟩ : ∃ v3, u3.setCell ⟨ib, 0, none⟩ (.slice gf nf ccf) = v3 := ⟨_, rfl⟩
      rw [hv3] at HD3
      have HV3 := hide hv3
      clear hr he hl hw kb
      go_wp2_with fail
      clear z3 y3
      go_ret
      refine ⟨ib, m3, d3, rfl, (unhide HD3).rd, (unhide HD3).ext, (unhide HD3).le, (unhide HD).far, fun q => ?_, telM_cpl (unhide HC2) (unhide HX1) (fun ⟨xs, _, hx, _, _, _, e⟩ => ⟨xs, hx, e⟩) (unhide HX2) (fun ⟨xs, _, hx, _, _, _, e⟩ => ⟨xs, hx, e⟩) (unhide HX3)⟩
      obtain ⟨q, fs, cf, of', wf, ef, lf, eqf⟩ := (unhide HX3).snd q
      obtain ⟨q, ks, ck, ok', wk, ek, lk, eqk⟩ := (unhide HX2).snd q
      obtain ⟨q, xs, cx, ox, wx, ex, lx, eqx⟩ := (unhide HX1).snd q
      obtain ⟨q, e0⟩ := (unhide HW2) q
      have hr := unhide HRL
      have hf1 := hlt (unhide HD).blk
      have hf2 := hlt (unhide HD1).blk
      have hf3 := hlt (unhide HD2).blk
      have hw1 := (unhide HD).ext.size
      have hw2 := (unhide HD1).ext.size
      have hw3 := (unhide HD2).ext.size
      have kb := (unhide HD3).blk
      have hg2 := unhide HG2
      have hg3 := unhide HG3
      obtain rfl := unhide HV1
      obtain rfl := unhide HV2
      obtain rfl := unhide HV3
      obtain ⟨RF, hRF, hFF⟩ := ef
      obtain ⟨RK, hRK, hKK⟩ := ek
      have hri : ib ≠ r := by have := (unhide HD).far; omega
      refine ⟨q, ⟨fs, xs, ks⟩, .slice gf nf ccf, .slice gc nc ccc, .slice gk nk cck, fun w9 hx9 => ⟨hx9.cell (hcell kb 0) hri, hx9.cell (hcell kb 1) hri, hx9.cell (hcell kb 2) hri, ⟨?_, ?_, ?_⟩⟩, ⟨ox, ok', of'⟩, ?_⟩
      · refine ⟨RF, (((SlOwn.of_owns (b := 104) wf hRF (by omega)).set hf3 0 _).ext hx9 (by omega)).1, fun i f hi => ?_⟩
        have hsz : u3.heap.size ≤ w9.heap.size := by have := hx9.size; simpa [World.setCell] using this
        refine (FnOwn.keep2 (r := r) (ib := ib) (hFF i f hi) (by omega) hf3 hsz fun j hj h2 h3 => ?_).1
        rw [hx9.block j (by simpa [World.setCell] using hj) h2]
        exact hother _ h3
      · exact ((((((SlOwn.of_owns (b := 32) wx ex (by omega)).set hf1 1 _).ext hg2 (by omega)).set hf1 2 _).ext hg3 (by omega)).set hf1 0 _).ext hx9 (by omega) |>.1
      · refine ⟨RK, (((((SlOwn.of_owns (b := 96) wk hRK (by omega)).set hf2 2 _).ext hg3 (by omega)).set hf2 0 _).ext hx9 (by omega)).1, fun i f hi => ?_⟩
        have hsz : u2.heap.size ≤ u3.heap.size := by have := hg3.size; simpa [World.setCell] using this
        have hsz9 : u3.heap.size ≤ w9.heap.size := by have := hx9.size; simpa [World.setCell] using this
        refine (KdOwn.keep2 (r := r) (ib := ib) (hKK i f hi) (by omega) hf2 (Nat.le_trans hsz hsz9) fun j hj h2 h3 => ?_).1
        rw [hx9.block j (by simp [World.setCell]; omega) h2, hother _ h3, hg3.block j (by simpa [World.setCell] using hj) h2, hother _ h3]
      · rw [e0, eqx, eqk, eqf]
        simp [encM]
    rcases hk4 with hk4 | hk4 | hk4 | hk4
    · subst hk4
      go_wp2_with fail
      refine wp_region_held_drew (S := (fun _ => True)) (by kernel_rfl) trivial (fun hHeld => ?_)
      refine wpAnyH_take (i := 0) (oi := { dst := some 8, op := _, type := _, pos := _, after := _, guard := _ }) (v := ?_) rfl (by kernel_rfl) (by kernel_rfl) (by kernel_rfl) (fun _ _ _ h => h) (Or.inl ⟨by rfl, ?_⟩) (by assumption) ?_
      case refine_2 =>
        intro w hSw
        try dsimp only at hSw
        go_simp
        try with_reducible rfl
      simp only [Act.put, List.setIfInBounds_toArray, List.set_cons_zero, List.set_cons_succ]
      refine wpAnyH_take (i := 2) (oi := { dst := some 10, op := _, type := _, pos := _, after := _, guard := _ }) (v := ?_) rfl (by kernel_rfl) (by kernel_rfl) (by kernel_rfl) (fun _ _ _ h => h) (Or.inl ⟨by rfl, ?_⟩) (by assumption) ?_
      case refine_2 =>
        intro w hSw
        try dsimp only at hSw
        go_simp
        try with_reducible rfl
      simp only [Act.put, List.setIfInBounds_toArray, List.set_cons_zero, List.set_cons_succ]
      refine wpAnyH_take (i := 3) (oi := { dst := some 11, op := _, type := _, pos := _, after := _, guard := _ }) (v := ?_) rfl (by kernel_rfl) (by kernel_rfl) (by kernel_rfl) (fun _ _ _ h => h) (Or.inl ⟨by rfl, ?_⟩) (by assumption) ?_
      case refine_2 =>
        intro w hSw
        try dsimp only at hSw
        go_simp
        try with_reducible rfl
      simp only [Act.put, List.setIfInBounds_toArray, List.set_cons_zero, List.set_cons_succ]
      refine wpAnyH_ready (rs := [1]) (by kernel_rfl) (by simp) ?_
      refine AllReadyH.cons (o := { dst := some 9, op := _, type := _, pos := _, after := _, guard := _ }) rfl (fun K hK => ?_) AllReadyH.nil
      go_simp
      refine (next_any (unhide HRD)).mono ?_
      rintro e w3 ⟨b, l3, wb3, rfl, hb0, hb1, hr3, he3, hl3, hw3⟩
      have HR3 := hide hr3
      have HE3 := hide (((unhide HE2).trans (Ext.of_below (Below.drew (Below.refl _ _)))).trans he3)
      have HL3 := hide (Nat.le_trans hl3 (unhide HL2))
      have HW3 := hide hw3
      obtain ⟨g3, cap3, t3, hbk, _⟩ := hr3.blk
      have c1 : w3.cell? ⟨r, 1, none⟩ = some (.bool wb3) := hcell hbk 1
      have f1 := hfroz hbk 1
      clear hr3 he3 hl3 hw3 hbk
      refine hK.out _ _ trivial (fun hHeld2 => ?_)
      clear hK K
      refine wpAnyH_take (i := 4) (oi := { dst := some 12, op := _, type := _, pos := _, after := _, guard := _ }) (v := ?_) rfl (by kernel_rfl) (by kernel_rfl) (by kernel_rfl) (fun _ _ _ h => h) (Or.inl ⟨by rfl, ?_⟩) (by assumption) ?_
      case refine_2 =>
        intro w hSw
        try dsimp only at hSw
        go_simp
        try with_reducible rfl
      simp only [Act.put, List.setIfInBounds_toArray, List.set_cons_zero, List.set_cons_succ]
      refine wpAnyH_done (by kernel_rfl) ?_ _
      have hix : (((⟨#[82, 87, 78, 68]⟩ : ByteArray)[0]'(by decide)).toNat : Int) = 82 := rfl
      try rw [hix]
      by_cases hb : b = 82
      · subst hb
        go_wp2_with fail
        go_roundg (4 - (0 + 1))
        case measure => omega
        case rel =>
          refine ⟨1, by omega, rfl, rfl, l3, wb3, unhide HR3, unhide HE3, unhide HL3, fun q => ?_, fun q l0 e => ?_⟩
          · obtain ⟨q, e3⟩ := (unhide HW3).snd q
            obtain ⟨q, e2⟩ := (unhide HW2) q
            exact ⟨q, by rw [e2, e3]; rfl⟩
          · obtain ⟨r1, r2⟩ := unhide HC2 q l0 e
            have r3 := (unhide HW3).cpl r1 82 _ trivial r2
            obtain ⟨_, r4⟩ := (unhide HW3).snd r3
            exact ⟨r3, (List.cons.inj (r4.symm.trans r2)).2⟩
      · have HBN := hide hb
        have hbn : (b != 82) = true := by simpa using hb
        have hbe : (b == 82) = false := by simpa using hb
        go_wp2_with fail
        go_roundg (4 - (0 + 1))
        case measure => omega
        case rel => exact ⟨1, by omega, rfl, rfl, l3, true, (unhide HR3).bad, (unhide HE3).setCell 1 _, unhide HL3, (fun q => by cases q), fun q l0 e => by
          obtain ⟨r1, r2⟩ := unhide HC2 q l0 e
          obtain ⟨_, r4⟩ := (unhide HW3).snd ((unhide HW3).cpl r1 82 _ trivial r2)
          exact absurd (List.cons.inj (r4.symm.trans r2)).1 (unhide HBN)⟩
    · subst hk4
      go_wp2_with fail
      refine wp_region_held_drew (S := (fun _ => True)) (by kernel_rfl) trivial (fun hHeld => ?_)
      refine wpAnyH_take (i := 0) (oi := { dst := some 8, op := _, type := _, pos := _, after := _, guard := _ }) (v := ?_) rfl (by kernel_rfl) (by kernel_rfl) (by kernel_rfl) (fun _ _ _ h => h) (Or.inl ⟨by rfl, ?_⟩) (by assumption) ?_
      case refine_2 =>
        intro w hSw
        try dsimp only at hSw
        go_simp
        try with_reducible rfl
      simp only [Act.put, List.setIfInBounds_toArray, List.set_cons_zero, List.set_cons_succ]
      refine wpAnyH_take (i := 2) (oi := { dst := some 10, op := _, type := _, pos := _, after := _, guard := _ }) (v := ?_) rfl (by kernel_rfl) (by kernel_rfl) (by kernel_rfl) (fun _ _ _ h => h) (Or.inl ⟨by rfl, ?_⟩) (by assumption) ?_
      case refine_2 =>
        intro w hSw
        try dsimp only at hSw
        go_simp
        try with_reducible rfl
      simp only [Act.put, List.setIfInBounds_toArray, List.set_cons_zero, List.set_cons_succ]
      refine wpAnyH_take (i := 3) (oi := { dst := some 11, op := _, type := _, pos := _, after := _, guard := _ }) (v := ?_) rfl (by kernel_rfl) (by kernel_rfl) (by kernel_rfl) (fun _ _ _ h => h) (Or.inl ⟨by rfl, ?_⟩) (by assumption) ?_
      case refine_2 =>
        intro w hSw
        try dsimp only at hSw
        go_simp
        try with_reducible rfl
      simp only [Act.put, List.setIfInBounds_toArray, List.set_cons_zero, List.set_cons_succ]
      refine wpAnyH_ready (rs := [1]) (by kernel_rfl) (by simp) ?_
      refine AllReadyH.cons (o := { dst := some 9, op := _, type := _, pos := _, after := _, guard := _ }) rfl (fun K hK => ?_) AllReadyH.nil
      go_simp
      refine (next_any (unhide HRD)).mono ?_
      rintro e w3 ⟨b, l3, wb3, rfl, hb0, hb1, hr3, he3, hl3, hw3⟩
      have HR3 := hide hr3
      have HE3 := hide (((unhide HE2).trans (Ext.of_below (Below.drew (Below.refl _ _)))).trans he3)
      have HL3 := hide (Nat.le_trans hl3 (unhide HL2))
      have HW3 := hide hw3
      obtain ⟨g3, cap3, t3, hbk, _⟩ := hr3.blk
      have c1 : w3.cell? ⟨r, 1, none⟩ = some (.bool wb3) := hcell hbk 1
      have f1 := hfroz hbk 1
      clear hr3 he3 hl3 hw3 hbk
      refine hK.out _ _ trivial (fun hHeld2 => ?_)
      clear hK K
      refine wpAnyH_take (i := 4) (oi := { dst := some 12, op := _, type := _, pos := _, after := _, guard := _ }) (v := ?_) rfl (by kernel_rfl) (by kernel_rfl) (by kernel_rfl) (fun _ _ _ h => h) (Or.inl ⟨by rfl, ?_⟩) (by assumption) ?_
      case refine_2 =>
        intro w hSw
        try dsimp only at hSw
        go_simp
        try with_reducible rfl
      simp only [Act.put, List.setIfInBounds_toArray, List.set_cons_zero, List.set_cons_succ]
      refine wpAnyH_done (by kernel_rfl) ?_ _
      have hix : (((⟨#[82, 87, 78, 68]⟩ : ByteArray)[1]'(by decide)).toNat : Int) = 87 := rfl
      try rw [hix]
      by_cases hb : b = 87
      · subst hb
        go_wp2_with fail
        go_roundg (4 - (1 + 1))
        case measure => omega
        case rel =>
          refine ⟨2, by omega, rfl, rfl, l3, wb3, unhide HR3, unhide HE3, unhide HL3, fun q => ?_, fun q l0 e => ?_⟩
          · obtain ⟨q, e3⟩ := (unhide HW3).snd q
            obtain ⟨q, e2⟩ := (unhide HW2) q
            exact ⟨q, by rw [e2, e3]; rfl⟩
          · obtain ⟨r1, r2⟩ := unhide HC2 q l0 e
            have r3 := (unhide HW3).cpl r1 87 _ trivial r2
            obtain ⟨_, r4⟩ := (unhide HW3).snd r3
            exact ⟨r3, (List.cons.inj (r4.symm.trans r2)).2⟩
      · have HBN := hide hb
        have hbn : (b != 87) = true := by simpa using hb
        have hbe : (b == 87) = false := by simpa using hb
        go_wp2_with fail
        go_roundg (4 - (1 + 1))
        case measure => omega
        case rel => exact ⟨2, by omega, rfl, rfl, l3, true, (unhide HR3).bad, (unhide HE3).setCell 1 _, unhide HL3, (fun q => by cases q), fun q l0 e => by
          obtain ⟨r1, r2⟩ := unhide HC2 q l0 e
          obtain ⟨_, r4⟩ := (unhide HW3).snd ((unhide HW3).cpl r1 87 _ trivial r2)
          exact absurd (List.cons.inj (r4.symm.trans r2)).1 (unhide HBN)⟩
    · subst hk4
      go_wp2_with fail
      refine wp_region_held_drew (S := (fun _ => True)) (by kernel_rfl) trivial (fun hHeld => ?_)
      refine wpAnyH_take (i := 0) (oi := { dst := some 8, op := _, type := _, pos := _, after := _, guard := _ }) (v := ?_) rfl (by kernel_rfl) (by kernel_rfl) (by kernel_rfl) (fun _ _ _ h => h) (Or.inl ⟨by rfl, ?_⟩) (by assumption) ?_
      case refine_2 =>
        intro w hSw
        try dsimp only at hSw
        go_simp
        try with_reducible rfl
      simp only [Act.put, List.setIfInBounds_toArray, List.set_cons_zero, List.set_cons_succ]
      refine wpAnyH_take (i := 2) (oi := { dst := some 10, op := _, type := _, pos := _, after := _, guard := _ }) (v := ?_) rfl (by kernel_rfl) (by kernel_rfl) (by kernel_rfl) (fun _ _ _ h => h) (Or.inl ⟨by rfl, ?_⟩) (by assumption) ?_
      case refine_2 =>
        intro w hSw
        try dsimp only at hSw
        go_simp
        try with_reducible rfl
      simp only [Act.put, List.setIfInBounds_toArray, List.set_cons_zero, List.set_cons_succ]
      refine wpAnyH_take (i := 3) (oi := { dst := some 11, op := _, type := _, pos := _, after := _, guard := _ }) (v := ?_) rfl (by kernel_rfl) (by kernel_rfl) (by kernel_rfl) (fun _ _ _ h => h) (Or.inl ⟨by rfl, ?_⟩) (by assumption) ?_
      case refine_2 =>
        intro w hSw
        try dsimp only at hSw
        go_simp
        try with_reducible rfl
      simp only [Act.put, List.setIfInBounds_toArray, List.set_cons_zero, List.set_cons_succ]
      refine wpAnyH_ready (rs := [1]) (by kernel_rfl) (by simp) ?_
      refine AllReadyH.cons (o := { dst := some 9, op := _, type := _, pos := _, after := _, guard := _ }) rfl (fun K hK => ?_) AllReadyH.nil
      go_simp
      refine (next_any (unhide HRD)).mono ?_
      rintro e w3 ⟨b, l3, wb3, rfl, hb0, hb1, hr3, he3, hl3, hw3⟩
      have HR3 := hide hr3
      have HE3 := hide (((unhide HE2).trans (Ext.of_below (Below.drew (Below.refl _ _)))).trans he3)
      have HL3 := hide (Nat.le_trans hl3 (unhide HL2))
      have HW3 := hide hw3
      obtain ⟨g3, cap3, t3, hbk, _⟩ := hr3.blk
      have c1 : w3.cell? ⟨r, 1, none⟩ = some (.bool wb3) := hcell hbk 1
      have f1 := hfroz hbk 1
      clear hr3 he3 hl3 hw3 hbk
      refine hK.out _ _ trivial (fun hHeld2 => ?_)
      clear hK K
      refine wpAnyH_take (i := 4) (oi := { dst := some 12, op := _, type := _, pos := _, after := _, guard := _ }) (v := ?_) rfl (by kernel_rfl) (by kernel_rfl) (by kernel_rfl) (fun _ _ _ h => h) (Or.inl ⟨by rfl, ?_⟩) (by assumption) ?_
      case refine_2 =>
        intro w hSw
        try dsimp only at hSw
        go_simp
        try with_reducible rfl
      simp only [Act.put, List.setIfInBounds_toArray, List.set_cons_zero, List.set_cons_succ]
      refine wpAnyH_done (by kernel_rfl) ?_ _
      have hix : (((⟨#[82, 87, 78, 68]⟩ : ByteArray)[2]'(by decide)).toNat : Int) = 78 := rfl
      try rw [hix]
      by_cases hb : b = 78
      · subst hb
        go_wp2_with fail
        go_roundg (4 - (2 + 1))
        case measure => omega
        case rel =>
          refine ⟨3, by omega, rfl, rfl, l3, wb3, unhide HR3, unhide HE3, unhide HL3, fun q => ?_, fun q l0 e => ?_⟩
          · obtain ⟨q, e3⟩ := (unhide HW3).snd q
            obtain ⟨q, e2⟩ := (unhide HW2) q
            exact ⟨q, by rw [e2, e3]; rfl⟩
          · obtain ⟨r1, r2⟩ := unhide HC2 q l0 e
            have r3 := (unhide HW3).cpl r1 78 _ trivial r2
            obtain ⟨_, r4⟩ := (unhide HW3).snd r3
            exact ⟨r3, (List.cons.inj (r4.symm.trans r2)).2⟩
      · have HBN := hide hb
        have hbn : (b != 78) = true := by simpa using hb
        have hbe : (b == 78) = false := by simpa using hb
        go_wp2_with fail
        go_roundg (4 - (2 + 1))
        case measure => omega
        case rel => exact ⟨3, by omega, rfl, rfl, l3, true, (unhide HR3).bad, (unhide HE3).setCell 1 _, unhide HL3, (fun q => by cases q), fun q l0 e => by
          obtain ⟨r1, r2⟩ := unhide HC2 q l0 e
          obtain ⟨_, r4⟩ := (unhide HW3).snd ((unhide HW3).cpl r1 78 _ trivial r2)
          exact absurd (List.cons.inj (r4.symm.trans r2)).1 (unhide HBN)⟩
    · subst hk4
      go_wp2_with fail
      refine wp_region_held_drew (S := (fun _ => True)) (by kernel_rfl) trivial (fun hHeld => ?_)
      refine wpAnyH_take (i := 0) (oi := { dst := some 8, op := _, type := _, pos := _, after := _, guard := _ }) (v := ?_) rfl (by kernel_rfl) (by kernel_rfl) (by kernel_rfl) (fun _ _ _ h => h) (Or.inl ⟨by rfl, ?_⟩) (by assumption) ?_
      case refine_2 =>
        intro w hSw
        try dsimp only at hSw
        go_simp
        try with_reducible rfl
      simp only [Act.put, List.setIfInBounds_toArray, List.set_cons_zero, List.set_cons_succ]
      refine wpAnyH_take (i := 2) (oi := { dst := some 10, op := _, type := _, pos := _, after := _, guard := _ }) (v := ?_) rfl (by kernel_rfl) (by kernel_rfl) (by kernel_rfl) (fun _ _ _ h => h) (Or.inl ⟨by rfl, ?_⟩) (by assumption) ?_
      case refine_2 =>
        intro w hSw
        try dsimp only at hSw
        go_simp
        try with_reducible rfl
      simp only [Act.put, List.setIfInBounds_toArray, List.set_cons_zero, List.set_cons_succ]
      refine wpAnyH_take (i := 3) (oi := { dst := some 11, op := _, type := _, pos := _, after := _, guard := _ }) (v := ?_) rfl (by kernel_rfl) (by kernel_rfl) (by kernel_rfl) (fun _ _ _ h => h) (Or.inl ⟨by rfl, ?_⟩) (by assumption) ?_
      case refine_2 =>
        intro w hSw
        try dsimp only at hSw
        go_simp
        try with_reducible rfl
      simp only [Act.put, List.setIfInBounds_toArray, List.set_cons_zero, List.set_cons_succ]
      refine wpAnyH_ready (rs := [1]) (by kernel_rfl) (by simp) ?_
      refine AllReadyH.cons (o := { dst := some 9, op := _, type := _, pos := _, after := _, guard := _ }) rfl (fun K hK => ?_) AllReadyH.nil
      go_simp
      refine (next_any (unhide HRD)).mono ?_
      rintro e w3 ⟨b, l3, wb3, rfl, hb0, hb1, hr3, he3, hl3, hw3⟩
      have HR3 := hide hr3
      have HE3 := hide (((unhide HE2).trans (Ext.of_below (Below.drew (Below.refl _ _)))).trans he3)
      have HL3 := hide (Nat.le_trans hl3 (unhide HL2))
      have HW3 := hide hw3
      obtain ⟨g3, cap3, t3, hbk, _⟩ := hr3.blk
      have c1 : w3.cell? ⟨r, 1, none⟩ = some (.bool wb3) := hcell hbk 1
      have f1 := hfroz hbk 1
      clear hr3 he3 hl3 hw3 hbk
      refine hK.out _ _ trivial (fun hHeld2 => ?_)
      clear hK K
      refine wpAnyH_take (i := 4) (oi := { dst := some 12, op := _, type := _, pos := _, after := _, guard := _ }) (v := ?_) rfl (by kernel_rfl) (by kernel_rfl) (by kernel_rfl) (fun _ _ _ h => h) (Or.inl ⟨by rfl, ?_⟩) (by assumption) ?_
      case refine_2 =>
        intro w hSw
        try dsimp only at hSw
        go_simp
        try with_reducible rfl
      simp only [Act.put, List.setIfInBounds_toArray, List.set_cons_zero, List.set_cons_succ]
      refine wpAnyH_done (by kernel_rfl) ?_ _
      have hix : (((⟨#[82, 87, 78, 68]⟩ : ByteArray)[3]'(by decide)).toNat : Int) = 68 := rfl
      try rw [hix]
      by_cases hb : b = 68
      · subst hb
        go_wp2_with fail
        go_roundg (4 - (3 + 1))
        case measure => omega
        case rel =>
          refine ⟨4, by omega, rfl, rfl, l3, wb3, unhide HR3, unhide HE3, unhide HL3, fun q => ?_, fun q l0 e => ?_⟩
          · obtain ⟨q, e3⟩ := (unhide HW3).snd q
            obtain ⟨q, e2⟩ := (unhide HW2) q
            exact ⟨q, by rw [e2, e3]; rfl⟩
          · obtain ⟨r1, r2⟩ := unhide HC2 q l0 e
            have r3 := (unhide HW3).cpl r1 68 _ trivial r2
            obtain ⟨_, r4⟩ := (unhide HW3).snd r3
            exact ⟨r3, (List.cons.inj (r4.symm.trans r2)).2⟩
      · have HBN := hide hb
        have hbn : (b != 68) = true := by simpa using hb
        have hbe : (b == 68) = false := by simpa using hb
        go_wp2_with fail
        go_roundg (4 - (3 + 1))
        case measure => omega
        case rel => exact ⟨4, by omega, rfl, rfl, l3, true, (unhide HR3).bad, (unhide HE3).setCell 1 _, unhide HL3, (fun q => by cases q), fun q l0 e => by
          obtain ⟨r1, r2⟩ := unhide HC2 q l0 e
          obtain ⟨_, r4⟩ := (unhide HW3).snd ((unhide HW3).cpl r1 68 _ trivial r2)
          exact absurd (List.cons.inj (r4.symm.trans r2)).1 (unhide HBN)⟩
end Go.Proofs.YtkafldkhmkdafaaGreatDoor
