/-
  Leaves, names with arguments.
  Values that a word or sign tells.
  Values that a word or sign tells.
  Values that a word or sign tells.
  Values that a word or sign tells.
  Values that a word or sign tells.
  Values that a word or sign tells.
  Values that a word or sign tells.
  Values that a word or sign tells.
  Values that a word or sign tells.
  Values that a word or sign tells.
  Values of which no other one is the beginning.
-/
import Derived.Test.YtndgajlidckcdaaGreatDoorB09
namespace Go.Proofs.YtndgajlidckcdaaGreatDoor
open Go.RowKit
attribute [local go_sem ↓] Go.wp_at_zero Go.wp_at_succ

set_option maxRecDepth 100000 in
set_option maxHeartbeats 8000000 in
theorem leaf_any {w : World} {r D : Nat} {S : LS} (cx : Cx w r S) (hD : S.dp = D) (k : Nat) (hk : S.kd ≠ 0) :
    Calls Tryz.prog 210 #[.pointer (some ⟨r, 0, none⟩), .int .i64 k] w fun e w' => Ret (leafP k S) r (vNode w.heap.size) e w' ∧ Ext r w w' := by
  obtain ⟨i0, hi, hz0, hz1, hz2⟩ := info_parts infoNode
  have hr0 := cx.jc.lt
  have HX0 : Hid (Ext r w w) := Ext.refl r w
  have hd0 := hD
  have HC0 := hide cx
  clear cx
  go_enter Tryz.func210, Tryz.ntmps210
  go_wp2_with fail
  refine (start_calls (unhide HC0) k).mono ?_
  rintro e w1 ⟨v, rfl, ⟨rfl, hu⟩, cx1, hx⟩
  have HU1 := hide hu
  have HX1 := hide ((unhide HX0).trans hx)
  have HC1 := hide cx1
  have hd1 := hd0
  clear hu hx cx1 HC0 HX0
  go_wp2_with fail
  refine Ret.call (take_any (unhide HC1)) ?_ ?_
  · intro f wz hf hx
    exact ⟨rfl, Ret.inl (bnd_inl hf), (unhide HX1).trans hx⟩
  intro a2 S2 v w2 hf hv cx2 hx
  obtain rfl : v = S.tok := hv
  have hon2 := take_on (unhide HC1).ok hk hf
  have hd2 : S2.dp = D := hon2.same.dp.trans hd1
  have HP2 := hide (show (leafP k S) = _ from bnd_inr hf)
  have HU2 := hide ((unhide HU1).ext hx fun j hj => by omega)
  have HX2 := hide ((unhide HX1).trans hx)
  have HC2 := hide cx2
  clear hf hx cx2 HC1 HX1 hd1 HU1
  unfold LS.tok
  obtain ⟨t0, hb⟩ := (unhide HU2).cells
  have dq : w2.cell? ⟨w.heap.size, 1, none⟩ = some (.string noText) := hcell hb 1
  have gq := hfroz hb 1
  clear hb
  obtain ⟨t3, hb3⟩ := (unhide HU2).cells
  have dr : w2.cell? ⟨w.heap.size, 3, none⟩ = some (.int .i64 0) := hcell hb3 3
  have gr := hfroz hb3 3
  have hlt : w.heap.size < w2.heap.size := (Array.getElem?_eq_some_iff.1 hb3).1
  clear hb3
  go_wp2_with fail
  have hbt := hnew w2 (.cells #[.int .i64 S.kd, .int .i64 S.tp, .int .i64 S.tl, .string S.mrk, .string S.tx, .int .i64 S.nn] 125)
  have HU3 := hide ((unhide HU2).ext (r := r) ((Ext.refl r w2).alloc (.cells #[.int .i64 S.kd, .int .i64 S.tp, .int .i64 S.tl, .string S.mrk, .string S.tx, .int .i64 S.nn] 125)) fun j hj => by omega)
  have HX3 := hide ((unhide HX2).alloc (.cells #[.int .i64 S.kd, .int .i64 S.tp, .int .i64 S.tl, .string S.mrk, .string S.tx, .int .i64 S.nn] 125))
  have HC3 := hide ((unhide HC2).alloc (.cells #[.int .i64 S.kd, .int .i64 S.tp, .int .i64 S.tl, .string S.mrk, .string S.tx, .int .i64 S.nn] 125))
  clear dq gq dr gr HU2 HX2 HC2
  generalize w2.alloc (.cells #[.int .i64 S.kd, .int .i64 S.tp, .int .i64 S.tl, .string S.mrk, .string S.tx, .int .i64 S.nn] 125) = w3 at *
  obtain ⟨t3, hb3⟩ := (unhide HU3).cells
  have d1 : w3.cell? ⟨w.heap.size, 1, none⟩ = some (.string noText) := hcell hb3 1
  have d3 : w3.cell? ⟨w.heap.size, 3, none⟩ = some (.int .i64 0) := hcell hb3 3
  have g1 := hfroz hb3 1
  have g3 := hfroz hb3 3
  have d4 : w3.cell? ⟨w2.heap.size, 4, none⟩ = some (.string S.tx) := hcell hbt 4
  have d5 : w3.cell? ⟨w2.heap.size, 5, none⟩ = some (.int .i64 S.nn) := hcell hbt 5
  clear hb3 hbt
  go_region_held3 (fun w' => w'.cell? ⟨w2.heap.size, 4, none⟩ = some (.string S.tx) ∧ w'.cell? ⟨w2.heap.size, 5, none⟩ = some (.int .i64 S.nn)) ((refine ⟨?_, ?_⟩ <;> simp [World.cell?_setCell_other, d4, d5])) (fail)
  go_wp2_with fail
  go_ret
  have hu4 := (((unhide HU3).put 1 (.string S.tx) (tx' := S.tx) rfl).put 3 (.int .i64 S.nn) (n' := S.nn) rfl)
  refine ⟨Ret.inr (unhide HP2) ?_ (((unhide HC3).setCell hr0 1 (.string S.tx)).setCell hr0 3 (.int .i64 S.nn)).drew, (((unhide HX3).setNew ⟨w.heap.size, 1, none⟩ (Nat.le_refl _) _).setNew ⟨w.heap.size, 3, none⟩ (Nat.le_refl _) _).drew⟩
  exact hu4.drew.node

set_option maxRecDepth 100000 in
set_option maxHeartbeats 8000000 in
theorem args_any {w : World} {r D : Nat} {S : LS} (cx : Cx w r S) (hD : S.dp = D) {L : Low} (hL : LowC r D L) :
    Calls Tryz.prog 174 #[.pointer (some ⟨r, 0, none⟩)] w fun e w' => Ret (argsP L S) r (vList w.heap.size) e w' ∧ Ext r w w' := by
  obtain ⟨i0, hi, hz0, hz1, hz2⟩ := info_parts infoNode
  have hr0 := cx.jc.lt
  have HL := hide hL
  clear hL
  have HX0 : Hid (Ext r w w) := Ext.refl r w
  have hd0 := hD
  have HC0 := hide cx
  clear cx
  go_enter Tryz.func174, Tryz.ntmps174
  go_wp2_with fail
  refine Ret.call (listed_any (unhide HC0) hd0 tShut _ _ L.V (value_part (unhide HL))) ?_ ?_
  · intro f wz hf hx
    exact ⟨rfl, Ret.inl hf, hx⟩
  intro ts S1 v w1 hf hv cx1 hx
  have HF := hide (show argsP L S = _ from hf)
  have HV := hide hv
  obtain ⟨vs, hl, -⟩ := hv
  obtain ⟨la, lcap, rfl⟩ := hl.form
  clear hf hl
  go_wp2_with fail
  go_ret
  exact ⟨Ret.inr (unhide HF) (unhide HV) cx1, hx⟩

set_option maxRecDepth 100000 in
set_option maxHeartbeats 8000000 in
theorem named_any {w : World} {r D : Nat} {S : LS} (cx : Cx w r S) (hD : S.dp = D) {L : Low} (hL : LowC r D L) {w0 : World} {k ln : Nat} (hx0 : Ext r w0 w) (hr0 : r + 18 < w0.heap.size) (hu0 : Und (fun j => w0.heap.size ≤ j) w w0.heap.size k noText noText 0 ln [] (.slice none 0 0) []) :
    Calls Tryz.prog 241 #[.pointer (some ⟨r, 0, none⟩), .pointer (some ⟨w0.heap.size, 0, none⟩)] w fun e w' => Ret (namedP L k ln S) r (fun t v w' => v = .pointer (some ⟨w0.heap.size, 0, none⟩) ∧ vNode w0.heap.size t v w') e w' ∧ Ext r w0 w' := by
  obtain ⟨i0, hi, hz0, hz1, hz2⟩ := info_parts infoNode
  have HL := hide hL
  clear hL
  have HX0 := hide hx0
  clear hx0
  have HU0 := hide hu0
  clear hu0
  have hd0 := hD
  have HC0 := hide cx
  clear cx
  go_enter Tryz.func241, Tryz.ntmps241
  go_wp2_with fail
  refine Ret.call (name_any (unhide HC0)) ?_ ?_
  · intro f wz hf hx
    exact ⟨rfl, Ret.inl (bnd_inl hf), (unhide HX0).trans hx⟩
  intro s1 S1 v w1 hf hv cx1 hx
  obtain rfl : v = .string s1 := hv
  have hon1 := name_on (unhide HC0).ok hf
  have hlt1 : w0.heap.size < w1.heap.size := by
    obtain ⟨t0, hb⟩ := ((unhide HU0).ext hx fun j hj => by omega).cells
    exact (Array.getElem?_eq_some_iff.1 hb).1
  have hd1 : S1.dp = D := hon1.same.dp.trans hd0
  have HP1 := hide (show (namedP L k ln S) = _ from bnd_inr hf)
  have HU1 := hide ((unhide HU0).ext hx fun j hj => by omega)
  have HX1 := hide ((unhide HX0).trans hx)
  have HC1 := hide cx1
  clear hf hx cx1 HC0 HX0 hd0 HU0
  obtain ⟨t0, hb⟩ := (unhide HU1).cells
  have dq : w1.cell? ⟨w0.heap.size, 1, none⟩ = some (.string noText) := hcell hb 1
  have gq := hfroz hb 1
  clear hb
  have HU2 := hide ((unhide HU1).put 1 (.string s1) (tx' := s1) rfl)
  have HX2 := hide ((unhide HX1).setNew ⟨w0.heap.size, 1, none⟩ (Nat.le_refl _) (.string s1))
  have HC2 := hide ((unhide HC1).setCell hr0 1 (.string s1))
  have hd2 := hd1
  clear HU1 HX1 HC1
  go_wp2_with fail
  refine Ret.call (want_any (unhide HC2) tOpen) ?_ ?_
  · intro f wz hf hx
    exact ⟨rfl, Ret.inl ((unhide HP1).trans (bnd_inl hf)), (unhide HX2).trans hx⟩
  intro a3 S3 v w3 hf hv cx3 hx
  obtain rfl : v = .tuple #[] := hv
  have hon3 := want_on (unhide HC2).ok hf
  have hd3 : S3.dp = D := hon3.same.dp.trans hd2
  have HP3 := hide ((unhide HP1).trans (bnd_inr hf))
  have HU3 := hide ((unhide HU2).ext hx fun j hj => by omega)
  have HX3 := hide ((unhide HX2).trans hx)
  have HC3 := hide cx3
  clear hf hx cx3 HC2 HX2 hd2 HP1 HU2
  have hlt3 : w0.heap.size < w3.heap.size := by
    obtain ⟨t0, hb⟩ := (unhide HU3).cells
    exact (Array.getElem?_eq_some_iff.1 hb).1
  go_wp2_with fail
  refine Ret.call (args_any (unhide HC3) hd3 (unhide HL)) ?_ ?_
  · intro f wz hf hx
    exact ⟨rfl, Ret.inl ((unhide HP3).trans (bnd_inl hf)), (unhide HX3).trans hx⟩
  intro us4 S4 v w4 hf hv cx4 hx
  have hon4 := listedP_good (unhide HL).good.v _ _ _ (unhide HC3).ok hf
  have hd4 : S4.dp = D := hon4.same.dp.trans hd3
  have HP4 := hide ((unhide HP3).trans (bnd_inr hf))
  have HU4 := hide ((unhide HU3).ext hx fun j hj => by omega)
  have HX4 := hide ((unhide HX3).trans hx)
  have HC4 := hide cx4
  clear hf hx cx4 HC3 HX3 hd3 HP3 HU3
  obtain ⟨vs, hl, -⟩ := hv
  obtain ⟨la, lcap, rfl⟩ := hl.form
  have HU9 := hide ((unhide HU4).setKids hl hlt3)
  obtain ⟨t0, hb⟩ := (unhide HU4).cells
  have dq : w4.cell? ⟨w0.heap.size, 5, none⟩ = some (.slice none 0 0) := hcell hb 5
  have gq := hfroz hb 5
  clear hb
  clear hl
  go_wp2_with fail
  go_ret
  exact ⟨Ret.inr (unhide HP4) ⟨rfl, (unhide HU9).node⟩ ((unhide HC4).setCell hr0 _ _), (unhide HX4).setNew ⟨w0.heap.size, 5, none⟩ (Nat.le_refl _) _⟩

end Go.Proofs.YtndgajlidckcdaaGreatDoor

namespace Go.Proofs.YtndgajlidckcdaaGreatDoor
open Go.RowKit
attribute [local go_sem ↓] Go.wp_at_zero Go.wp_at_succ

theorem is_c {w : World} {r : Nat} {S : LS} (h : Rd w r S) (m : ByteArray) {b : Bool} (hb : S.is m = b) :
    Calls Tryz.prog 108 #[.pointer (some ⟨r, 0, none⟩), .string m] w fun e w' => e = .returned (.bool b) ∧ w = w' :=
  (is_calls h m hb).mono fun _ _ ⟨h1, h2⟩ => ⟨h1, h2.symm⟩

set_option maxRecDepth 100000 in
set_option maxHeartbeats 4000000 in
theorem constant_any {w : World} {r : Nat} {S : LS} (cx : Cx w r S) :
    Calls Tryz.prog 211 #[.pointer (some ⟨r, 0, none⟩)] w fun e w' => e = .returned (.int .i64 (constP S)) ∧ w = w' := by
  cases hb0 : S.is wTrue with
  | true =>
    have HP := hide (show constP S = 20 by rw [constP, if_pos hb0])
    go_enter Tryz.func211, Tryz.ntmps211
    go_wp2_with fail
    refine (is_c cx.rd wTrue hb0).mono ?_
    rintro e wz ⟨rfl, rfl⟩
    go_wp2_with fail
    go_ret
    rw [unhide HP]
    exact ⟨rfl, rfl⟩
  | false =>
    cases hb1 : S.is wFalse with
    | true =>
      have HP := hide (show constP S = 21 by rw [constP, if_neg (by rw [hb0]; decide), if_pos hb1])
      go_enter Tryz.func211, Tryz.ntmps211
      go_wp2_with fail
      refine (is_c cx.rd wTrue hb0).mono ?_
      rintro e wz ⟨rfl, rfl⟩
      go_wp2_with fail
      refine (is_c cx.rd wFalse hb1).mono ?_
      rintro e wz ⟨rfl, rfl⟩
      go_wp2_with fail
      go_ret
      rw [unhide HP]
      exact ⟨rfl, rfl⟩
    | false =>
      cases hb2 : S.is wNil with
      | true =>
        have HP := hide (show constP S = 22 by rw [constP, if_neg (by rw [hb0]; decide), if_neg (by rw [hb1]; decide), if_pos hb2])
        go_enter Tryz.func211, Tryz.ntmps211
        go_wp2_with fail
        refine (is_c cx.rd wTrue hb0).mono ?_
        rintro e wz ⟨rfl, rfl⟩
        go_wp2_with fail
        refine (is_c cx.rd wFalse hb1).mono ?_
        rintro e wz ⟨rfl, rfl⟩
        go_wp2_with fail
        refine (is_c cx.rd wNil hb2).mono ?_
        rintro e wz ⟨rfl, rfl⟩
        go_wp2_with fail
        go_ret
        rw [unhide HP]
        exact ⟨rfl, rfl⟩
      | false =>
        cases hb3 : S.is wThis with
        | true =>
          have HP := hide (show constP S = 23 by rw [constP, if_neg (by rw [hb0]; decide), if_neg (by rw [hb1]; decide), if_neg (by rw [hb2]; decide), if_pos hb3])
          go_enter Tryz.func211, Tryz.ntmps211
          go_wp2_with fail
          refine (is_c cx.rd wTrue hb0).mono ?_
          rintro e wz ⟨rfl, rfl⟩
          go_wp2_with fail
          refine (is_c cx.rd wFalse hb1).mono ?_
          rintro e wz ⟨rfl, rfl⟩
          go_wp2_with fail
          refine (is_c cx.rd wNil hb2).mono ?_
          rintro e wz ⟨rfl, rfl⟩
          go_wp2_with fail
          refine (is_c cx.rd wThis hb3).mono ?_
          rintro e wz ⟨rfl, rfl⟩
          go_wp2_with fail
          go_ret
          rw [unhide HP]
          exact ⟨rfl, rfl⟩
        | false =>
          have HP := hide (show constP S = 0 by rw [constP, if_neg (by rw [hb0]; decide), if_neg (by rw [hb1]; decide), if_neg (by rw [hb2]; decide), if_neg (by rw [hb3]; decide)])
          go_enter Tryz.func211, Tryz.ntmps211
          go_wp2_with fail
          refine (is_c cx.rd wTrue hb0).mono ?_
          rintro e wz ⟨rfl, rfl⟩
          go_wp2_with fail
          refine (is_c cx.rd wFalse hb1).mono ?_
          rintro e wz ⟨rfl, rfl⟩
          go_wp2_with fail
          refine (is_c cx.rd wNil hb2).mono ?_
          rintro e wz ⟨rfl, rfl⟩
          go_wp2_with fail
          refine (is_c cx.rd wThis hb3).mono ?_
          rintro e wz ⟨rfl, rfl⟩
          go_wp2_with fail
          go_ret
          rw [unhide HP]
          exact ⟨rfl, rfl⟩
end Go.Proofs.YtndgajlidckcdaaGreatDoor

namespace Go.Proofs.YtndgajlidckcdaaGreatDoor
open Go.RowKit
attribute [local go_sem ↓] Go.wp_at_zero Go.wp_at_succ

set_option maxRecDepth 100000 in
set_option maxHeartbeats 8000000 in
theorem marked_any_0 {w : World} {r D : Nat} {S : LS} (cx : Cx w r S) (hD : S.dp = D) {L : Low} (hL : LowC r D L) (hb0 : S.is tOpen = true) :
    Calls Tryz.prog 212 #[.pointer (some ⟨r, 0, none⟩)] w fun e w' => Ret (inParP L S) r (vNode w.heap.size) e w' ∧ Ext r w w' := by
  obtain ⟨i0, hi, hz0, hz1, hz2⟩ := info_parts infoNode
  have hr0 := cx.jc.lt
  have HL := hide hL
  clear hL
  have HX0 : Hid (Ext r w w) := Ext.refl r w
  have hd0 := hD
  have HC0 := hide cx
  clear cx
  go_enter Tryz.func212, Tryz.ntmps212
  have hk := is_kd hb0
  go_wp2_with fail
  refine (is_c (unhide HC0).rd tOpen hb0).mono ?_
  rintro e wz ⟨rfl, rfl⟩
  go_wp2_with fail
  refine Ret.call (inPar_any (unhide HC0) hd0 (unhide HL)) ?_ ?_
  · intro f wz hf hx
    exact ⟨rfl, Ret.inl (hf), (unhide HX0).trans hx⟩
  intro t9 S9 v w9 hf hv cx9 hx9
  obtain ⟨kb, rfl⟩ := vNode_ptr hv
  have HP9 := hide (hf)
  have HV9 := hide hv
  clear hf hv
  go_wp2_with fail
  go_ret
  exact ⟨Ret.inr (unhide HP9) (unhide HV9) cx9, (unhide HX0).trans hx9⟩

end Go.Proofs.YtndgajlidckcdaaGreatDoor

namespace Go.Proofs.YtndgajlidckcdaaGreatDoor
open Go.RowKit
attribute [local go_sem ↓] Go.wp_at_zero Go.wp_at_succ

set_option maxRecDepth 100000 in
set_option maxHeartbeats 8000000 in
theorem marked_any_1 {w : World} {r D : Nat} {S : LS} (cx : Cx w r S) (hD : S.dp = D) {L : Low} (hL : LowC r D L) (hb0 : S.is tOpen = false) (hb1 : S.is tSquare = true) :
    Calls Tryz.prog 212 #[.pointer (some ⟨r, 0, none⟩)] w fun e w' => Ret (bnd (takeP S) fun _ S1 => bnd (listedP tSquared L.V S1) fun us S2 => (.inr (nd 27 S.tl us, S2) : Res Tree)) r (vNode w.heap.size) e w' ∧ Ext r w w' := by
  obtain ⟨i0, hi, hz0, hz1, hz2⟩ := info_parts infoNode
  have hr0 := cx.jc.lt
  have HL := hide hL
  clear hL
  have HX0 : Hid (Ext r w w) := Ext.refl r w
  have hd0 := hD
  have HC0 := hide cx
  clear cx
  go_enter Tryz.func212, Tryz.ntmps212
  have hk := is_kd hb1
  go_wp2_with fail
  refine (is_c (unhide HC0).rd tOpen hb0).mono ?_
  rintro e wz ⟨rfl, rfl⟩
  go_wp2_with fail
  refine (is_c (unhide HC0).rd tSquare hb1).mono ?_
  rintro e wz ⟨rfl, rfl⟩
  go_wp2_with fail
  refine Ret.call (taken_any (unhide HC0) 27) ?_ ?_
  · intro f wz hf hx
    exact ⟨rfl, Ret.inl (bnd_inl hf), (unhide HX0).trans hx⟩
  intro a1 S1 v w1 hf hv cx1 hx
  obtain ⟨rfl, hu⟩ := hv
  have HU1 := hide hu
  have hon1 := take_on (unhide HC0).ok hk hf
  have hd1 : S1.dp = D := hon1.same.dp.trans hd0
  have HP1 := hide (show (bnd (takeP S) fun _ S1 => bnd (listedP tSquared L.V S1) fun us S2 => (.inr (nd 27 S.tl us, S2) : Res Tree)) = _ from bnd_inr hf)
  have HX1 := hide ((unhide HX0).trans hx)
  have HC1 := hide cx1
  clear hf hx cx1 HC0 HX0 hd0 hu
  have hlt : w.heap.size < w1.heap.size := by
    obtain ⟨t0, hb⟩ := (unhide HU1).cells
    exact (Array.getElem?_eq_some_iff.1 hb).1
  go_wp2_with fail
  refine Ret.call (listed_any (unhide HC1) hd1 tSquared _ _ L.V (value_part (unhide HL))) ?_ ?_
  · intro f wz hf hx
    exact ⟨rfl, Ret.inl ((unhide HP1).trans (bnd_inl hf)), (unhide HX1).trans hx⟩
  intro us2 S2 v w2 hf hv cx2 hx
  have hon2 := listedP_good (unhide HL).good.v _ _ _ (unhide HC1).ok hf
  have hd2 : S2.dp = D := hon2.same.dp.trans hd1
  have HP2 := hide ((unhide HP1).trans (bnd_inr hf))
  have HU2 := hide ((unhide HU1).ext hx fun j hj => by omega)
  have HX2 := hide ((unhide HX1).trans hx)
  have HC2 := hide cx2
  clear hf hx cx2 HC1 HX1 hd1 HP1 HU1
  obtain ⟨vs, hl, -⟩ := hv
  obtain ⟨la, lcap, rfl⟩ := hl.form
  have HU9 := hide ((unhide HU2).setKids hl hlt)
  obtain ⟨t0, hb⟩ := (unhide HU2).cells
  have dq : w2.cell? ⟨w.heap.size, 5, none⟩ = some (.slice none 0 0) := hcell hb 5
  have gq := hfroz hb 5
  clear hb
  clear hl
  go_wp2_with fail
  go_ret
  exact ⟨Ret.inr (unhide HP2) (unhide HU9).node ((unhide HC2).setCell hr0 _ _), (unhide HX2).setNew ⟨w.heap.size, 5, none⟩ (Nat.le_refl _) _⟩

end Go.Proofs.YtndgajlidckcdaaGreatDoor

namespace Go.Proofs.YtndgajlidckcdaaGreatDoor
open Go.RowKit
attribute [local go_sem ↓] Go.wp_at_zero Go.wp_at_succ

set_option maxRecDepth 100000 in
set_option maxHeartbeats 8000000 in
theorem marked_any_2 {w : World} {r D : Nat} {S : LS} (cx : Cx w r S) (hD : S.dp = D) {L : Low} (hL : LowC r D L) (hb0 : S.is tOpen = false) (hb1 : S.is tSquare = false) (hb2 : S.is wFn = true) :
    Calls Tryz.prog 212 #[.pointer (some ⟨r, 0, none⟩)] w fun e w' => Ret (lambdaP L S) r (vNode w.heap.size) e w' ∧ Ext r w w' := by
  obtain ⟨i0, hi, hz0, hz1, hz2⟩ := info_parts infoNode
  have hr0 := cx.jc.lt
  have HL := hide hL
  clear hL
  have HX0 : Hid (Ext r w w) := Ext.refl r w
  have hd0 := hD
  have HC0 := hide cx
  clear cx
  go_enter Tryz.func212, Tryz.ntmps212
  have hk := is_kd hb2
  go_wp2_with fail
  refine (is_c (unhide HC0).rd tOpen hb0).mono ?_
  rintro e wz ⟨rfl, rfl⟩
  go_wp2_with fail
  refine (is_c (unhide HC0).rd tSquare hb1).mono ?_
  rintro e wz ⟨rfl, rfl⟩
  go_wp2_with fail
  refine (is_c (unhide HC0).rd wFn hb2).mono ?_
  rintro e wz ⟨rfl, rfl⟩
  go_wp2_with fail
  refine Ret.call (lambda_any (unhide HC0) hd0 (unhide HL) hk) ?_ ?_
  · intro f wz hf hx
    exact ⟨rfl, Ret.inl (hf), (unhide HX0).trans hx⟩
  intro t9 S9 v w9 hf hv cx9 hx9
  obtain ⟨kb, rfl⟩ := vNode_ptr hv
  have HP9 := hide (hf)
  have HV9 := hide hv
  clear hf hv
  go_wp2_with fail
  go_ret
  exact ⟨Ret.inr (unhide HP9) (unhide HV9) cx9, (unhide HX0).trans hx9⟩

end Go.Proofs.YtndgajlidckcdaaGreatDoor

namespace Go.Proofs.YtndgajlidckcdaaGreatDoor
open Go.RowKit
attribute [local go_sem ↓] Go.wp_at_zero Go.wp_at_succ

set_option maxRecDepth 100000 in
set_option maxHeartbeats 8000000 in
theorem marked_any_3 {w : World} {r D : Nat} {S : LS} (cx : Cx w r S) (hD : S.dp = D) {L : Low} (hL : LowC r D L) (hb0 : S.is tOpen = false) (hb1 : S.is tSquare = false) (hb2 : S.is wFn = false) (hb3 : S.is wNew = true) :
    Calls Tryz.prog 212 #[.pointer (some ⟨r, 0, none⟩)] w fun e w' => Ret (bnd (takeP S) fun _ S1 => namedP L 25 S.tl S1) r (vNode w.heap.size) e w' ∧ Ext r w w' := by
  obtain ⟨i0, hi, hz0, hz1, hz2⟩ := info_parts infoNode
  have hr0 := cx.jc.lt
  have HL := hide hL
  clear hL
  have HX0 : Hid (Ext r w w) := Ext.refl r w
  have hd0 := hD
  have HC0 := hide cx
  clear cx
  go_enter Tryz.func212, Tryz.ntmps212
  have hk := is_kd hb3
  go_wp2_with fail
  refine (is_c (unhide HC0).rd tOpen hb0).mono ?_
  rintro e wz ⟨rfl, rfl⟩
  go_wp2_with fail
  refine (is_c (unhide HC0).rd tSquare hb1).mono ?_
  rintro e wz ⟨rfl, rfl⟩
  go_wp2_with fail
  refine (is_c (unhide HC0).rd wFn hb2).mono ?_
  rintro e wz ⟨rfl, rfl⟩
  go_wp2_with fail
  refine (is_c (unhide HC0).rd wNew hb3).mono ?_
  rintro e wz ⟨rfl, rfl⟩
  go_wp2_with fail
  refine Ret.call (taken_any (unhide HC0) 25) ?_ ?_
  · intro f wz hf hx
    exact ⟨rfl, Ret.inl (bnd_inl hf), (unhide HX0).trans hx⟩
  intro a1 S1 v w1 hf hv cx1 hx
  obtain ⟨rfl, hu⟩ := hv
  have HU1 := hide hu
  have hon1 := take_on (unhide HC0).ok hk hf
  have hd1 : S1.dp = D := hon1.same.dp.trans hd0
  have HP1 := hide (show (bnd (takeP S) fun _ S1 => namedP L 25 S.tl S1) = _ from bnd_inr hf)
  have HX1 := hide ((unhide HX0).trans hx)
  have HC1 := hide cx1
  clear hf hx cx1 HC0 HX0 hd0 hu
  go_wp2_with fail
  refine Ret.callX (X := Ext r w) (named_any (unhide HC1) hd1 (unhide HL) (unhide HX1) hr0 (unhide HU1)) ?_ ?_
  · intro f wz hf hx
    exact ⟨rfl, Ret.inl ((unhide HP1).trans hf), hx⟩
  intro t9 S9 v w9 hf hv cx9 hx9
  obtain ⟨rfl, hv⟩ := hv
  have HP9 := hide ((unhide HP1).trans hf)
  have HV9 := hide hv
  clear hf hv
  go_wp2_with fail
  go_ret
  exact ⟨Ret.inr (unhide HP9) (unhide HV9) cx9, hx9⟩

end Go.Proofs.YtndgajlidckcdaaGreatDoor

namespace Go.Proofs.YtndgajlidckcdaaGreatDoor
open Go.RowKit
attribute [local go_sem ↓] Go.wp_at_zero Go.wp_at_succ

set_option maxRecDepth 100000 in
set_option maxHeartbeats 8000000 in
theorem marked_any_4 {w : World} {r D : Nat} {S : LS} (cx : Cx w r S) (hD : S.dp = D) {L : Low} (hL : LowC r D L) (hb0 : S.is tOpen = false) (hb1 : S.is tSquare = false) (hb2 : S.is wFn = false) (hb3 : S.is wNew = false) (hb4 : S.is wSuper = true) :
    Calls Tryz.prog 212 #[.pointer (some ⟨r, 0, none⟩)] w fun e w' => Ret (bnd (takeP S) fun _ S1 => bnd (wantP tDot S1) fun _ S2 => namedP L 26 S.tl S2) r (vNode w.heap.size) e w' ∧ Ext r w w' := by
  obtain ⟨i0, hi, hz0, hz1, hz2⟩ := info_parts infoNode
  have hr0 := cx.jc.lt
  have HL := hide hL
  clear hL
  have HX0 : Hid (Ext r w w) := Ext.refl r w
  have hd0 := hD
  have HC0 := hide cx
  clear cx
  go_enter Tryz.func212, Tryz.ntmps212
  have hk := is_kd hb4
  go_wp2_with fail
  refine (is_c (unhide HC0).rd tOpen hb0).mono ?_
  rintro e wz ⟨rfl, rfl⟩
  go_wp2_with fail
  refine (is_c (unhide HC0).rd tSquare hb1).mono ?_
  rintro e wz ⟨rfl, rfl⟩
  go_wp2_with fail
  refine (is_c (unhide HC0).rd wFn hb2).mono ?_
  rintro e wz ⟨rfl, rfl⟩
  go_wp2_with fail
  refine (is_c (unhide HC0).rd wNew hb3).mono ?_
  rintro e wz ⟨rfl, rfl⟩
  go_wp2_with fail
  refine (is_c (unhide HC0).rd wSuper hb4).mono ?_
  rintro e wz ⟨rfl, rfl⟩
  go_wp2_with fail
  refine Ret.call (taken_any (unhide HC0) 26) ?_ ?_
  · intro f wz hf hx
    exact ⟨rfl, Ret.inl (bnd_inl hf), (unhide HX0).trans hx⟩
  intro a1 S1 v w1 hf hv cx1 hx
  obtain ⟨rfl, hu⟩ := hv
  have HU1 := hide hu
  have hon1 := take_on (unhide HC0).ok hk hf
  have hd1 : S1.dp = D := hon1.same.dp.trans hd0
  have HP1 := hide (show (bnd (takeP S) fun _ S1 => bnd (wantP tDot S1) fun _ S2 => namedP L 26 S.tl S2) = _ from bnd_inr hf)
  have HX1 := hide ((unhide HX0).trans hx)
  have HC1 := hide cx1
  clear hf hx cx1 HC0 HX0 hd0 hu
  go_wp2_with fail
  refine Ret.call (want_any (unhide HC1) tDot) ?_ ?_
  · intro f wz hf hx
    exact ⟨rfl, Ret.inl ((unhide HP1).trans (bnd_inl hf)), (unhide HX1).trans hx⟩
  intro a2 S2 v w2 hf hv cx2 hx
  obtain rfl : v = .tuple #[] := hv
  have hon2 := want_on (unhide HC1).ok hf
  have hd2 : S2.dp = D := hon2.same.dp.trans hd1
  have HP2 := hide ((unhide HP1).trans (bnd_inr hf))
  have HU2 := hide ((unhide HU1).ext hx fun j hj => by omega)
  have HX2 := hide ((unhide HX1).trans hx)
  have HC2 := hide cx2
  clear hf hx cx2 HC1 HX1 hd1 HP1 HU1
  go_wp2_with fail
  refine Ret.callX (X := Ext r w) (named_any (unhide HC2) hd2 (unhide HL) (unhide HX2) hr0 (unhide HU2)) ?_ ?_
  · intro f wz hf hx
    exact ⟨rfl, Ret.inl ((unhide HP2).trans hf), hx⟩
  intro t9 S9 v w9 hf hv cx9 hx9
  obtain ⟨rfl, hv⟩ := hv
  have HP9 := hide ((unhide HP2).trans hf)
  have HV9 := hide hv
  clear hf hv
  go_wp2_with fail
  go_ret
  exact ⟨Ret.inr (unhide HP9) (unhide HV9) cx9, hx9⟩

end Go.Proofs.YtndgajlidckcdaaGreatDoor

namespace Go.Proofs.YtndgajlidckcdaaGreatDoor
open Go.RowKit
attribute [local go_sem ↓] Go.wp_at_zero Go.wp_at_succ

set_option maxRecDepth 100000 in
set_option maxHeartbeats 8000000 in
theorem marked_any_5 {w : World} {r D : Nat} {S : LS} (cx : Cx w r S) (hD : S.dp = D) {L : Low} (hL : LowC r D L) (hb0 : S.is tOpen = false) (hb1 : S.is tSquare = false) (hb2 : S.is wFn = false) (hb3 : S.is wNew = false) (hb4 : S.is wSuper = false) (hb5 : S.is wInput = true) :
    Calls Tryz.prog 212 #[.pointer (some ⟨r, 0, none⟩)] w fun e w' => Ret (bnd (takeP S) fun _ S1 => bnd (wantP tOpen S1) fun _ S2 => bnd (wantP tShut S2) fun _ S3 => (.inr (nd 29 S.tl [], S3) : Res Tree)) r (vNode w.heap.size) e w' ∧ Ext r w w' := by
  obtain ⟨i0, hi, hz0, hz1, hz2⟩ := info_parts infoNode
  have hr0 := cx.jc.lt
  have HL := hide hL
  clear hL
  have HX0 : Hid (Ext r w w) := Ext.refl r w
  have hd0 := hD
  have HC0 := hide cx
  clear cx
  go_enter Tryz.func212, Tryz.ntmps212
  have hk := is_kd hb5
  go_wp2_with fail
  refine (is_c (unhide HC0).rd tOpen hb0).mono ?_
  rintro e wz ⟨rfl, rfl⟩
  go_wp2_with fail
  refine (is_c (unhide HC0).rd tSquare hb1).mono ?_
  rintro e wz ⟨rfl, rfl⟩
  go_wp2_with fail
  refine (is_c (unhide HC0).rd wFn hb2).mono ?_
  rintro e wz ⟨rfl, rfl⟩
  go_wp2_with fail
  refine (is_c (unhide HC0).rd wNew hb3).mono ?_
  rintro e wz ⟨rfl, rfl⟩
  go_wp2_with fail
  refine (is_c (unhide HC0).rd wSuper hb4).mono ?_
  rintro e wz ⟨rfl, rfl⟩
  go_wp2_with fail
  refine (is_c (unhide HC0).rd wInput hb5).mono ?_
  rintro e wz ⟨rfl, rfl⟩
  go_wp2_with fail
  refine Ret.call (taken_any (unhide HC0) 29) ?_ ?_
  · intro f wz hf hx
    exact ⟨rfl, Ret.inl (bnd_inl hf), (unhide HX0).trans hx⟩
  intro a1 S1 v w1 hf hv cx1 hx
  obtain ⟨rfl, hu⟩ := hv
  have HU1 := hide hu
  have hon1 := take_on (unhide HC0).ok hk hf
  have hd1 : S1.dp = D := hon1.same.dp.trans hd0
  have HP1 := hide (show (bnd (takeP S) fun _ S1 => bnd (wantP tOpen S1) fun _ S2 => bnd (wantP tShut S2) fun _ S3 => (.inr (nd 29 S.tl [], S3) : Res Tree)) = _ from bnd_inr hf)
  have HX1 := hide ((unhide HX0).trans hx)
  have HC1 := hide cx1
  clear hf hx cx1 HC0 HX0 hd0 hu
  go_wp2_with fail
  refine Ret.call (want_any (unhide HC1) tOpen) ?_ ?_
  · intro f wz hf hx
    exact ⟨rfl, Ret.inl ((unhide HP1).trans (bnd_inl hf)), (unhide HX1).trans hx⟩
  intro a2 S2 v w2 hf hv cx2 hx
  obtain rfl : v = .tuple #[] := hv
  have hon2 := want_on (unhide HC1).ok hf
  have hd2 : S2.dp = D := hon2.same.dp.trans hd1
  have HP2 := hide ((unhide HP1).trans (bnd_inr hf))
  have HU2 := hide ((unhide HU1).ext hx fun j hj => by omega)
  have HX2 := hide ((unhide HX1).trans hx)
  have HC2 := hide cx2
  clear hf hx cx2 HC1 HX1 hd1 HP1 HU1
  go_wp2_with fail
  refine Ret.call (want_any (unhide HC2) tShut) ?_ ?_
  · intro f wz hf hx
    exact ⟨rfl, Ret.inl ((unhide HP2).trans (bnd_inl hf)), (unhide HX2).trans hx⟩
  intro a3 S3 v w3 hf hv cx3 hx
  obtain rfl : v = .tuple #[] := hv
  have hon3 := want_on (unhide HC2).ok hf
  have hd3 : S3.dp = D := hon3.same.dp.trans hd2
  have HP3 := hide ((unhide HP2).trans (bnd_inr hf))
  have HU3 := hide ((unhide HU2).ext hx fun j hj => by omega)
  have HX3 := hide ((unhide HX2).trans hx)
  have HC3 := hide cx3
  clear hf hx cx3 HC2 HX2 hd2 HP2 HU2
  go_wp2_with fail
  go_ret
  exact ⟨Ret.inr (unhide HP3) ((unhide HU3).node) (unhide HC3), unhide HX3⟩

end Go.Proofs.YtndgajlidckcdaaGreatDoor

namespace Go.Proofs.YtndgajlidckcdaaGreatDoor
open Go.RowKit
attribute [local go_sem ↓] Go.wp_at_zero Go.wp_at_succ

set_option maxRecDepth 100000 in
set_option maxHeartbeats 8000000 in
theorem marked_any_6 {w : World} {r D : Nat} {S : LS} (cx : Cx w r S) (hD : S.dp = D) {L : Low} (hL : LowC r D L) (hb0 : S.is tOpen = false) (hb1 : S.is tSquare = false) (hb2 : S.is wFn = false) (hb3 : S.is wNew = false) (hb4 : S.is wSuper = false) (hb5 : S.is wInput = false) (hb6 : S.is wLen = true) :
    Calls Tryz.prog 212 #[.pointer (some ⟨r, 0, none⟩)] w fun e w' => Ret (bnd (takeP S) fun _ S1 => bnd (inParP L S1) fun t S2 => (.inr (nd 30 S.tl [t], S2) : Res Tree)) r (vNode w.heap.size) e w' ∧ Ext r w w' := by
  obtain ⟨i0, hi, hz0, hz1, hz2⟩ := info_parts infoNode
  have hr0 := cx.jc.lt
  have HL := hide hL
  clear hL
  have HX0 : Hid (Ext r w w) := Ext.refl r w
  have hd0 := hD
  have HC0 := hide cx
  clear cx
  go_enter Tryz.func212, Tryz.ntmps212
  have hk := is_kd hb6
  go_wp2_with fail
  refine (is_c (unhide HC0).rd tOpen hb0).mono ?_
  rintro e wz ⟨rfl, rfl⟩
  go_wp2_with fail
  refine (is_c (unhide HC0).rd tSquare hb1).mono ?_
  rintro e wz ⟨rfl, rfl⟩
  go_wp2_with fail
  refine (is_c (unhide HC0).rd wFn hb2).mono ?_
  rintro e wz ⟨rfl, rfl⟩
  go_wp2_with fail
  refine (is_c (unhide HC0).rd wNew hb3).mono ?_
  rintro e wz ⟨rfl, rfl⟩
  go_wp2_with fail
  refine (is_c (unhide HC0).rd wSuper hb4).mono ?_
  rintro e wz ⟨rfl, rfl⟩
  go_wp2_with fail
  refine (is_c (unhide HC0).rd wInput hb5).mono ?_
  rintro e wz ⟨rfl, rfl⟩
  go_wp2_with fail
  refine (is_c (unhide HC0).rd wLen hb6).mono ?_
  rintro e wz ⟨rfl, rfl⟩
  go_wp2_with fail
  refine Ret.call (taken_any (unhide HC0) 30) ?_ ?_
  · intro f wz hf hx
    exact ⟨rfl, Ret.inl (bnd_inl hf), (unhide HX0).trans hx⟩
  intro a1 S1 v w1 hf hv cx1 hx
  obtain ⟨rfl, hu⟩ := hv
  have HU1 := hide hu
  have hon1 := take_on (unhide HC0).ok hk hf
  have hd1 : S1.dp = D := hon1.same.dp.trans hd0
  have HP1 := hide (show (bnd (takeP S) fun _ S1 => bnd (inParP L S1) fun t S2 => (.inr (nd 30 S.tl [t], S2) : Res Tree)) = _ from bnd_inr hf)
  have HX1 := hide ((unhide HX0).trans hx)
  have HC1 := hide cx1
  clear hf hx cx1 HC0 HX0 hd0 hu
  obtain ⟨ks1, vs1, HU⟩ : ∃ ks vs, Hid (Und (fun j => w.heap.size ≤ j) w1 w.heap.size 30 noText noText 0 S.tl ([]) ks vs) := ⟨_, _, unhide HU1⟩
  have hvs1 : vs1.length ≤ 3000 := by rw [(unhide HU).len]; exact (by simp : ([]).length ≤ 3000)
  obtain ⟨t0, hb⟩ := (unhide HU).cells
  have d5 : w1.cell? ⟨w.heap.size, 5, none⟩ = some ks1 := hcell hb 5
  have g5 := hfroz hb 5
  have hent := ent_par r
  clear hb HU1
  go_wp2_with fail
  go_cut [] (fun wc => ∃ (t : Tree) (S4 : LS) (ks' : Value) (vs' : List Value), Hid (inParP L S1 = .inr (t, S4)) ∧ Cx wc r S4 ∧ Hid (Und (fun j => w.heap.size ≤ j) wc w.heap.size 30 noText noText 0 S.tl ([] ++ [t]) ks' vs') ∧ Hid (Ext r w wc))
  case first =>
    go_region_law ((first | (refine step_append_lies _ (by rfl) _ _ _ (by rfl) 0 22 i0 (.pointer none) 1 8 Tryz.underlying51 hi hz0 hz1 hz2 rfl (by decide) ks1 vs1.length vs1 (by rfl) ((unhide HO2).alloc _) ⟨w2.heap.size, 0, none⟩ 1 1 [.pointer (some ⟨kb, 0, none⟩)] (by rfl) rfl (cell_one_new _ _ _) (fun u hu => by simp at hu; subst hu; rfl) (by decide) (by unfold maxLen; omega) (by omega) (Nat.zero_le _) (w2.heap.size + 1) (by simp) ?_; intro g cap w3 hown hgrow hat hlt; obtain ⟨e6, f6, HU3, HX3, HC3⟩ := kid_more rfl (unhide HU).drew (unhide HU2) hr0 (unhide HC2) (unhide HX2) (unhide HV2) _ hown hgrow hat; clear hown hgrow hat hlt) | (refine step_call rfl (by simp [Act.eval, hent, go_sem]) (Ret.call (inPar_any (unhide HC1).drew hd1 (unhide HL)) (fun f w2 hf hx => ⟨rfl, Ret.inl ((unhide HP1).trans (bnd_inl hf)), ((unhide HX1).drew).trans hx⟩) ?_); intro t S1 v w2 hf hv cx1 hx; obtain ⟨kb, rfl⟩ := vNode_ptr hv; obtain ⟨e5, e5a, HO2, HU2⟩ := kid_call (unhide HU).drew hx (by omega); have HV2 := hide hv; have HC2 := hide cx1; have HX2 := hide (((unhide HX1).drew).trans hx); have HF := hide hf; clear hv cx1 hx hf)))
    all_goals
      go_wp2_with fail
      go_meet
      exact ⟨t, _, _, _, unhide HF, unhide HC3, unhide HU3, unhide HX3⟩
  case rest =>
    obtain ⟨t2, S2, ks2, vs2, HF, cx2, HU2, HX2⟩ := hcut
    have hon2 := inParP_good (unhide HL).good _ _ _ (unhide HC1).ok (unhide HF)
    have hd2 : S2.dp = D := hon2.same.dp.trans hd1
    have HP2 := hide ((unhide HP1).trans (bnd_inr (unhide HF)))
    have HC2 := hide cx2
    clear d5 g5 hent HU HX1 HC1 HF cx2 hd1 hvs1 HP1
    go_wp2_with fail
    go_ret
    exact ⟨Ret.inr (unhide HP2) ((unhide HU2).node) (unhide HC2), unhide HX2⟩

end Go.Proofs.YtndgajlidckcdaaGreatDoor

namespace Go.Proofs.YtndgajlidckcdaaGreatDoor
open Go.RowKit
attribute [local go_sem ↓] Go.wp_at_zero Go.wp_at_succ

set_option maxRecDepth 100000 in
set_option maxHeartbeats 8000000 in
theorem marked_any_7 {w : World} {r D : Nat} {S : LS} (cx : Cx w r S) (hD : S.dp = D) {L : Low} (hL : LowC r D L) (hb0 : S.is tOpen = false) (hb1 : S.is tSquare = false) (hb2 : S.is wFn = false) (hb3 : S.is wNew = false) (hb4 : S.is wSuper = false) (hb5 : S.is wInput = false) (hb6 : S.is wLen = false) :
    Calls Tryz.prog 212 #[.pointer (some ⟨r, 0, none⟩)] w fun e w' => Ret ((.inl (3, S.tp) : Res Tree)) r (vNode w.heap.size) e w' ∧ Ext r w w' := by
  obtain ⟨i0, hi, hz0, hz1, hz2⟩ := info_parts infoNode
  have hr0 := cx.jc.lt
  have HL := hide hL
  clear hL
  have HX0 : Hid (Ext r w w) := Ext.refl r w
  have hd0 := hD
  have HC0 := hide cx
  clear cx
  go_enter Tryz.func212, Tryz.ntmps212
  go_wp2_with fail
  refine (is_c (unhide HC0).rd tOpen hb0).mono ?_
  rintro e wz ⟨rfl, rfl⟩
  go_wp2_with fail
  refine (is_c (unhide HC0).rd tSquare hb1).mono ?_
  rintro e wz ⟨rfl, rfl⟩
  go_wp2_with fail
  refine (is_c (unhide HC0).rd wFn hb2).mono ?_
  rintro e wz ⟨rfl, rfl⟩
  go_wp2_with fail
  refine (is_c (unhide HC0).rd wNew hb3).mono ?_
  rintro e wz ⟨rfl, rfl⟩
  go_wp2_with fail
  refine (is_c (unhide HC0).rd wSuper hb4).mono ?_
  rintro e wz ⟨rfl, rfl⟩
  go_wp2_with fail
  refine (is_c (unhide HC0).rd wInput hb5).mono ?_
  rintro e wz ⟨rfl, rfl⟩
  go_wp2_with fail
  refine (is_c (unhide HC0).rd wLen hb6).mono ?_
  rintro e wz ⟨rfl, rfl⟩
  have c4 := (unhide HC0).rd.c4
  go_wp2_with fail
  exact ⟨rfl, Ret.inl (f := (3, S.tp)) rfl, Ext.refl _ _⟩

end Go.Proofs.YtndgajlidckcdaaGreatDoor

namespace Go.Proofs.YtndgajlidckcdaaGreatDoor
open Go.RowKit
attribute [local go_sem ↓] Go.wp_at_zero Go.wp_at_succ

theorem marked_any {w : World} {r D : Nat} {S : LS} (cx : Cx w r S) (hD : S.dp = D) {L : Low} (hL : LowC r D L) :
    Calls Tryz.prog 212 #[.pointer (some ⟨r, 0, none⟩)] w fun e w' => Ret (markedP L S) r (vNode w.heap.size) e w' ∧ Ext r w w' := by
  cases hb0 : S.is tOpen with
  | true =>
    rw [show markedP L S = (inParP L S) by rw [markedP, if_pos hb0]]
    exact marked_any_0 cx hD hL hb0
  | false =>
    cases hb1 : S.is tSquare with
    | true =>
      rw [show markedP L S = (bnd (takeP S) fun _ S1 => bnd (listedP tSquared L.V S1) fun us S2 => (.inr (nd 27 S.tl us, S2) : Res Tree)) by rw [markedP, if_neg (by rw [hb0]; decide), if_pos hb1]]
      exact marked_any_1 cx hD hL hb0 hb1
    | false =>
      cases hb2 : S.is wFn with
      | true =>
        rw [show markedP L S = (lambdaP L S) by rw [markedP, if_neg (by rw [hb0]; decide), if_neg (by rw [hb1]; decide), if_pos hb2]]
        exact marked_any_2 cx hD hL hb0 hb1 hb2
      | false =>
        cases hb3 : S.is wNew with
        | true =>
          rw [show markedP L S = (bnd (takeP S) fun _ S1 => namedP L 25 S.tl S1) by rw [markedP, if_neg (by rw [hb0]; decide), if_neg (by rw [hb1]; decide), if_neg (by rw [hb2]; decide), if_pos hb3]]
          exact marked_any_3 cx hD hL hb0 hb1 hb2 hb3
        | false =>
          cases hb4 : S.is wSuper with
          | true =>
            rw [show markedP L S = (bnd (takeP S) fun _ S1 => bnd (wantP tDot S1) fun _ S2 => namedP L 26 S.tl S2) by rw [markedP, if_neg (by rw [hb0]; decide), if_neg (by rw [hb1]; decide), if_neg (by rw [hb2]; decide), if_neg (by rw [hb3]; decide), if_pos hb4]]
            exact marked_any_4 cx hD hL hb0 hb1 hb2 hb3 hb4
          | false =>
            cases hb5 : S.is wInput with
            | true =>
              rw [show markedP L S = (bnd (takeP S) fun _ S1 => bnd (wantP tOpen S1) fun _ S2 => bnd (wantP tShut S2) fun _ S3 => (.inr (nd 29 S.tl [], S3) : Res Tree)) by rw [markedP, if_neg (by rw [hb0]; decide), if_neg (by rw [hb1]; decide), if_neg (by rw [hb2]; decide), if_neg (by rw [hb3]; decide), if_neg (by rw [hb4]; decide), if_pos hb5]]
              exact marked_any_5 cx hD hL hb0 hb1 hb2 hb3 hb4 hb5
            | false =>
              cases hb6 : S.is wLen with
              | true =>
                rw [show markedP L S = (bnd (takeP S) fun _ S1 => bnd (inParP L S1) fun t S2 => (.inr (nd 30 S.tl [t], S2) : Res Tree)) by rw [markedP, if_neg (by rw [hb0]; decide), if_neg (by rw [hb1]; decide), if_neg (by rw [hb2]; decide), if_neg (by rw [hb3]; decide), if_neg (by rw [hb4]; decide), if_neg (by rw [hb5]; decide), if_pos hb6]]
                exact marked_any_6 cx hD hL hb0 hb1 hb2 hb3 hb4 hb5 hb6
              | false =>
                rw [show markedP L S = ((.inl (3, S.tp) : Res Tree)) by rw [markedP, if_neg (by rw [hb0]; decide), if_neg (by rw [hb1]; decide), if_neg (by rw [hb2]; decide), if_neg (by rw [hb3]; decide), if_neg (by rw [hb4]; decide), if_neg (by rw [hb5]; decide), if_neg (by rw [hb6]; decide)]]
                exact marked_any_7 cx hD hL hb0 hb1 hb2 hb3 hb4 hb5 hb6

end Go.Proofs.YtndgajlidckcdaaGreatDoor

namespace Go.Proofs.YtndgajlidckcdaaGreatDoor
open Go.RowKit
attribute [local go_sem ↓] Go.wp_at_zero Go.wp_at_succ

set_option maxRecDepth 100000 in
set_option maxHeartbeats 8000000 in
theorem simple_any_0 {w : World} {r D : Nat} {S : LS} (cx : Cx w r S) (hD : S.dp = D) {L : Low} (hL : LowC r D L) (h : S.kd = 2) :
    Calls Tryz.prog 169 #[.pointer (some ⟨r, 0, none⟩)] w fun e w' => Ret (leafP 24 S) r (vNode w.heap.size) e w' ∧ Ext r w w' := by
  obtain ⟨i0, hi, hz0, hz1, hz2⟩ := info_parts infoNode
  have hr0 := cx.jc.lt
  have HL := hide hL
  clear hL
  have HX0 : Hid (Ext r w w) := Ext.refl r w
  have hd0 := hD
  have HC0 := hide cx
  clear cx
  go_enter Tryz.func169, Tryz.ntmps169
  have c3 := (unhide HC0).rd.c3
  have b0 : ((S.kd : Int) == 2) = true := by rw [beq_iff_eq]; omega
  have HK := hide (show S.kd ≠ 0 by omega)
  clear h
  go_wp2_with fail
  refine Ret.call (leaf_any (unhide HC0) hd0 24 (unhide HK)) ?_ ?_
  · intro f wz hf hx
    exact ⟨rfl, Ret.inl (hf), (unhide HX0).trans hx⟩
  intro t9 S9 v w9 hf hv cx9 hx9
  obtain ⟨kb, rfl⟩ := vNode_ptr hv
  have HP9 := hide (hf)
  have HV9 := hide hv
  clear hf hv
  go_wp2_with fail
  go_ret
  exact ⟨Ret.inr (unhide HP9) (unhide HV9) cx9, (unhide HX0).trans hx9⟩

set_option maxRecDepth 100000 in
set_option maxHeartbeats 8000000 in
theorem simple_any_1 {w : World} {r D : Nat} {S : LS} (cx : Cx w r S) (hD : S.dp = D) {L : Low} (hL : LowC r D L) (h : S.kd = 3) :
    Calls Tryz.prog 169 #[.pointer (some ⟨r, 0, none⟩)] w fun e w' => Ret (leafP 18 S) r (vNode w.heap.size) e w' ∧ Ext r w w' := by
  obtain ⟨i0, hi, hz0, hz1, hz2⟩ := info_parts infoNode
  have hr0 := cx.jc.lt
  have HL := hide hL
  clear hL
  have HX0 : Hid (Ext r w w) := Ext.refl r w
  have hd0 := hD
  have HC0 := hide cx
  clear cx
  go_enter Tryz.func169, Tryz.ntmps169
  have c3 := (unhide HC0).rd.c3
  have b0 : ((S.kd : Int) == 2) = false := by rw [beq_eq_false_iff_ne]; omega
  have b1 : ((S.kd : Int) == 3) = true := by rw [beq_iff_eq]; omega
  have HK := hide (show S.kd ≠ 0 by omega)
  clear h
  go_wp2_with fail
  refine Ret.call (leaf_any (unhide HC0) hd0 18 (unhide HK)) ?_ ?_
  · intro f wz hf hx
    exact ⟨rfl, Ret.inl (hf), (unhide HX0).trans hx⟩
  intro t9 S9 v w9 hf hv cx9 hx9
  obtain ⟨kb, rfl⟩ := vNode_ptr hv
  have HP9 := hide (hf)
  have HV9 := hide hv
  clear hf hv
  go_wp2_with fail
  go_ret
  exact ⟨Ret.inr (unhide HP9) (unhide HV9) cx9, (unhide HX0).trans hx9⟩

set_option maxRecDepth 100000 in
set_option maxHeartbeats 8000000 in
theorem simple_any_2 {w : World} {r D : Nat} {S : LS} (cx : Cx w r S) (hD : S.dp = D) {L : Low} (hL : LowC r D L) (h : S.kd = 4) :
    Calls Tryz.prog 169 #[.pointer (some ⟨r, 0, none⟩)] w fun e w' => Ret (leafP 19 S) r (vNode w.heap.size) e w' ∧ Ext r w w' := by
  obtain ⟨i0, hi, hz0, hz1, hz2⟩ := info_parts infoNode
  have hr0 := cx.jc.lt
  have HL := hide hL
  clear hL
  have HX0 : Hid (Ext r w w) := Ext.refl r w
  have hd0 := hD
  have HC0 := hide cx
  clear cx
  go_enter Tryz.func169, Tryz.ntmps169
  have c3 := (unhide HC0).rd.c3
  have b0 : ((S.kd : Int) == 2) = false := by rw [beq_eq_false_iff_ne]; omega
  have b1 : ((S.kd : Int) == 3) = false := by rw [beq_eq_false_iff_ne]; omega
  have b2 : ((S.kd : Int) == 4) = true := by rw [beq_iff_eq]; omega
  have HK := hide (show S.kd ≠ 0 by omega)
  clear h
  go_wp2_with fail
  refine Ret.call (leaf_any (unhide HC0) hd0 19 (unhide HK)) ?_ ?_
  · intro f wz hf hx
    exact ⟨rfl, Ret.inl (hf), (unhide HX0).trans hx⟩
  intro t9 S9 v w9 hf hv cx9 hx9
  obtain ⟨kb, rfl⟩ := vNode_ptr hv
  have HP9 := hide (hf)
  have HV9 := hide hv
  clear hf hv
  go_wp2_with fail
  go_ret
  exact ⟨Ret.inr (unhide HP9) (unhide HV9) cx9, (unhide HX0).trans hx9⟩

set_option maxRecDepth 100000 in
set_option maxHeartbeats 8000000 in
theorem simple_any_3 {w : World} {r D : Nat} {S : LS} (cx : Cx w r S) (hD : S.dp = D) {L : Low} (hL : LowC r D L) (h0 : S.kd ≠ 2) (h1 : S.kd ≠ 3) (h2 : S.kd ≠ 4) (h : constP S ≠ 0) :
    Calls Tryz.prog 169 #[.pointer (some ⟨r, 0, none⟩)] w fun e w' => Ret (leafP (constP S) S) r (vNode w.heap.size) e w' ∧ Ext r w w' := by
  obtain ⟨i0, hi, hz0, hz1, hz2⟩ := info_parts infoNode
  have hr0 := cx.jc.lt
  have HL := hide hL
  clear hL
  have HX0 : Hid (Ext r w w) := Ext.refl r w
  have hd0 := hD
  have HC0 := hide cx
  clear cx
  go_enter Tryz.func169, Tryz.ntmps169
  have c3 := (unhide HC0).rd.c3
  have b0 : ((S.kd : Int) == 2) = false := by rw [beq_eq_false_iff_ne]; omega
  have b1 : ((S.kd : Int) == 3) = false := by rw [beq_eq_false_iff_ne]; omega
  have b2 : ((S.kd : Int) == 4) = false := by rw [beq_eq_false_iff_ne]; omega
  clear h0 h1 h2
  have HK := hide (const_kd h)
  have bc : ((constP S : Int) == 0) = false := by rw [beq_eq_false_iff_ne]; omega
  clear h
  go_wp2_with fail
  refine (constant_any (unhide HC0)).mono ?_
  rintro e wz ⟨rfl, rfl⟩
  go_wp2_with fail
  refine Ret.call (leaf_any (unhide HC0) hd0 (constP S) (unhide HK)) ?_ ?_
  · intro f wz hf hx
    exact ⟨rfl, Ret.inl (hf), (unhide HX0).trans hx⟩
  intro t9 S9 v w9 hf hv cx9 hx9
  obtain ⟨kb, rfl⟩ := vNode_ptr hv
  have HP9 := hide (hf)
  have HV9 := hide hv
  clear hf hv
  go_wp2_with fail
  go_ret
  exact ⟨Ret.inr (unhide HP9) (unhide HV9) cx9, (unhide HX0).trans hx9⟩

set_option maxRecDepth 100000 in
set_option maxHeartbeats 8000000 in
theorem simple_any_4 {w : World} {r D : Nat} {S : LS} (cx : Cx w r S) (hD : S.dp = D) {L : Low} (hL : LowC r D L) (h0 : S.kd ≠ 2) (h1 : S.kd ≠ 3) (h2 : S.kd ≠ 4) (h : constP S = 0) :
    Calls Tryz.prog 169 #[.pointer (some ⟨r, 0, none⟩)] w fun e w' => Ret (markedP L S) r (vNode w.heap.size) e w' ∧ Ext r w w' := by
  obtain ⟨i0, hi, hz0, hz1, hz2⟩ := info_parts infoNode
  have hr0 := cx.jc.lt
  have HL := hide hL
  clear hL
  have HX0 : Hid (Ext r w w) := Ext.refl r w
  have hd0 := hD
  have HC0 := hide cx
  clear cx
  go_enter Tryz.func169, Tryz.ntmps169
  have c3 := (unhide HC0).rd.c3
  have b0 : ((S.kd : Int) == 2) = false := by rw [beq_eq_false_iff_ne]; omega
  have b1 : ((S.kd : Int) == 3) = false := by rw [beq_eq_false_iff_ne]; omega
  have b2 : ((S.kd : Int) == 4) = false := by rw [beq_eq_false_iff_ne]; omega
  clear h0 h1 h2
  have bc : ((constP S : Int) == 0) = true := by rw [beq_iff_eq]; omega
  clear h
  go_wp2_with fail
  refine (constant_any (unhide HC0)).mono ?_
  rintro e wz ⟨rfl, rfl⟩
  go_wp2_with fail
  refine Ret.call (marked_any (unhide HC0) hd0 (unhide HL)) ?_ ?_
  · intro f wz hf hx
    exact ⟨rfl, Ret.inl (hf), (unhide HX0).trans hx⟩
  intro t9 S9 v w9 hf hv cx9 hx9
  obtain ⟨kb, rfl⟩ := vNode_ptr hv
  have HP9 := hide (hf)
  have HV9 := hide hv
  clear hf hv
  go_wp2_with fail
  go_ret
  exact ⟨Ret.inr (unhide HP9) (unhide HV9) cx9, (unhide HX0).trans hx9⟩

theorem simple_any {w : World} {r D : Nat} {S : LS} (cx : Cx w r S) (hD : S.dp = D) {L : Low} (hL : LowC r D L) :
    Calls Tryz.prog 169 #[.pointer (some ⟨r, 0, none⟩)] w fun e w' => Ret (simpleP L S) r (vNode w.heap.size) e w' ∧ Ext r w w' := by
  unfold simpleP
  by_cases h0 : S.kd = 2
  · rw [if_pos h0]; exact simple_any_0 cx hD hL h0
  · rw [if_neg h0]
    by_cases h1 : S.kd = 3
    · rw [if_pos h1]; exact simple_any_1 cx hD hL h1
    · rw [if_neg h1]
      by_cases h2 : S.kd = 4
      · rw [if_pos h2]; exact simple_any_2 cx hD hL h2
      · rw [if_neg h2]
        by_cases h3 : constP S = 0
        · rw [if_pos h3]; exact simple_any_4 cx hD hL h0 h1 h2 h3
        · rw [if_neg h3]; exact simple_any_3 cx hD hL h0 h1 h2 h3

end Go.Proofs.YtndgajlidckcdaaGreatDoor
