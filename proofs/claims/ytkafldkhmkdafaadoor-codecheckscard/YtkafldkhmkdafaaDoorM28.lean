/-
  Any bytes are those of an image that may be run, or refused: at most 6000 bytes.
-/
import Derived.Test.YtkafldkhmkdafaaDoorM27
namespace Go.Proofs.YtkafldkhmkdafaaDoor
open Go.RowKit

theorem bytes_str {w : World} {g : Option Addr} {l : List Int} (h : BytesAt w g l) (cap : Nat) :
    (convert 40 9 (.slice g l.length cap)).run Tryd.prog w = .ok (.string (strOfNums l)) w := by
  cases g with
  | none =>
    have h0 : l = [] := by
      rcases Nat.eq_zero_or_pos l.length with q | q
      · exact List.length_eq_zero_iff.1 q
      · obtain ⟨_, _, e, _⟩ := h.cell 0 q
        cases e
    subst h0
    show (convert 40 9 (.slice none 0 cap)).run Tryd.prog w = _
    rw [run_convert_bytes_nil w 40 5 Tryd.underlying40 Tryd.underlying5 0 cap 9 Tryd.underlying9]
    rfl
  | some a =>
    by_cases hp : 0 < l.length
    · obtain ⟨b, o, e, _⟩ := h.cell 0 hp
      obtain rfl := Option.some.inj e
      refine run_convert_bytes_arg w 40 5 Tryd.underlying40 Tryd.underlying5 b o l.length cap l rfl (fun i hi => ?_) 9 Tryd.underlying9
      obtain ⟨b', o', e', hc⟩ := h.cell i hi
      cases e'
      exact hc
    · have h0 : l = [] := List.length_eq_zero_iff.1 (by omega)
      subst h0
      have key : ∀ a : Addr, (convert 40 9 (.slice (some a) 0 cap)).run Tryd.prog w = .ok (.string (strOfNums [])) w := fun a => by
        rw [run_convert_bytes_string w 40 9 5 _ 0 cap Tryd.underlying40 Tryd.underlying5 Tryd.underlying9, run_bytesToString w a 0 cap [] (by simp [loadCells, loadCellsFrom])]
        rfl
      exact key a
theorem bytes_of_owns {w : World} {B : Nat} {v : Value} {l : List Int} (h : w.ownsRow B 5 1 v l.length (l.map bv)) (hb : ∀ x ∈ l, 0 ≤ x ∧ x < 256) : ∃ g cap, v = .slice g l.length cap ∧ BytesAt w g l := by
  obtain ⟨g, cap, e, hr⟩ := rows_of_owns h (Flat.bytes l)
  refine ⟨g, cap, e, fun i hi => ?_, hb⟩
  obtain ⟨q, o, e, hc⟩ := hr i hi
  refine ⟨q, o, e, ?_⟩
  have := hc 0 (by omega)
  rw [byteRow_get hi, Nat.mul_one, Nat.add_zero] at this
  exact this
theorem Verdict.few {m : PM} (h : Verdict m 0 (-1)) : m.consts.length ≤ 1100 ∧ m.funcs.length ≤ 260 ∧ m.classes.length ≤ 260 := by
  have hl : limitOk m = true := by
    rcases h with ⟨_, e, _⟩ | ⟨_, _, e, _⟩ | ⟨h, _⟩
    · cases e
    · cases e
    · exact h
  unfold limitOk inB at hl
  simp at hl
  omega

set_option maxRecDepth 100000 in
set_option maxHeartbeats 8000000 in
/-- An error. -/
theorem decodes_small {w : World} {g : Option Addr} {l : List Int} (h : BytesAt w g l) (cap : Nat) (hcap : l.length ≤ cap) (hl : l.length ≤ 6000) (hfine : FineAt w) (hT : ErrT w) :
    Calls Tryd.prog 4 #[.slice g l.length cap] w fun e w' => e = .returned (.bool true) ∧ Below w.heap.size w w' := by
  have H := hide h
  have HT := hide hT
  have HFN := hide hfine
  have h1 : ¬ (6000 : Int) < (l.length : Int) := by omega
  have h3 : ¬ (110000 : Int) < (l.length : Int) := by omega
  have h4 : ¬ (100000 : Int) < (l.length : Int) := by omega
  clear h hT hfine
  go_enter Tryd.func4, Tryd.ntmps4
  go_wp2_with fail
  refine (decode_any (unhide H) cap hcap (by omega)).mono ?_
  rintro e w1 ⟨hb1, ⟨v, n, p, rfl, he, hv, _, hn⟩ | ⟨_, ib, m, vf, vc, vk, rfl, him, hok, hvd, hlm⟩⟩
  · have HB1 := hide hb1
    have HE := hide he
    have q0 := neqNil0
    clear hb1
    rcases he with ⟨rfl, _, _⟩ | ⟨rfl, rfl⟩ | ⟨ab, rfl, _, _⟩
    · exact absurd rfl hv
    · clear hv
      rcases hn with rfl | rfl | rfl
      · go_wp2_with fail
        refine (place_any (unhide HE) ((unhide HT).keep (unhide HB1))).mono ?_
        rintro e w2 ⟨rfl, hb2⟩
        have HB2 := hide ((unhide HB1).trans (hb2.mono (unhide HB1).size))
        clear hb2
        go_wp2_with fail
        go_ret
        exact ⟨rfl, unhide HB2⟩
      · go_wp2_with fail
        refine (place_any (unhide HE) ((unhide HT).keep (unhide HB1))).mono ?_
        rintro e w2 ⟨rfl, hb2⟩
        have HB2 := hide ((unhide HB1).trans (hb2.mono (unhide HB1).size))
        clear hb2
        go_wp2_with fail
        go_ret
        exact ⟨rfl, unhide HB2⟩
      · go_wp2_with fail
        refine (place_any (unhide HE) ((unhide HT).keep (unhide HB1))).mono ?_
        rintro e w2 ⟨rfl, hb2⟩
        have HB2 := hide ((unhide HB1).trans (hb2.mono (unhide HB1).size))
        clear hb2
        go_wp2_with fail
        go_ret
        exact ⟨rfl, unhide HB2⟩
    · clear hv
      by_cases hp : p < 0
      · rcases hn with rfl | rfl | rfl
        · go_wp2_with fail
          refine (place_any (unhide HE) ((unhide HT).keep (unhide HB1))).mono ?_
          rintro e w2 ⟨rfl, hb2⟩
          have HB2 := hide ((unhide HB1).trans (hb2.mono (unhide HB1).size))
          clear hb2
          go_wp2_with fail
          go_ret
          exact ⟨rfl, unhide HB2⟩
        · go_wp2_with fail
          refine (place_any (unhide HE) ((unhide HT).keep (unhide HB1))).mono ?_
          rintro e w2 ⟨rfl, hb2⟩
          have HB2 := hide ((unhide HB1).trans (hb2.mono (unhide HB1).size))
          clear hb2
          go_wp2_with fail
          go_ret
          exact ⟨rfl, unhide HB2⟩
        · go_wp2_with fail
          refine (place_any (unhide HE) ((unhide HT).keep (unhide HB1))).mono ?_
          rintro e w2 ⟨rfl, hb2⟩
          have HB2 := hide ((unhide HB1).trans (hb2.mono (unhide HB1).size))
          clear hb2
          go_wp2_with fail
          go_ret
          exact ⟨rfl, unhide HB2⟩
      · rcases hn with rfl | rfl | rfl
        · go_wp2_with fail
          refine (place_any (unhide HE) ((unhide HT).keep (unhide HB1))).mono ?_
          rintro e w2 ⟨rfl, hb2⟩
          have HB2 := hide ((unhide HB1).trans (hb2.mono (unhide HB1).size))
          clear hb2
          go_wp2_with fail
          go_ret
          exact ⟨rfl, unhide HB2⟩
        · go_wp2_with fail
          refine (place_any (unhide HE) ((unhide HT).keep (unhide HB1))).mono ?_
          rintro e w2 ⟨rfl, hb2⟩
          have HB2 := hide ((unhide HB1).trans (hb2.mono (unhide HB1).size))
          clear hb2
          go_wp2_with fail
          go_ret
          exact ⟨rfl, unhide HB2⟩
        · go_wp2_with fail
          refine (place_any (unhide HE) ((unhide HT).keep (unhide HB1))).mono ?_
          rintro e w2 ⟨rfl, hb2⟩
          have HB2 := hide ((unhide HB1).trans (hb2.mono (unhide HB1).size))
          clear hb2
          go_wp2_with fail
          go_ret
          exact ⟨rfl, unhide HB2⟩
  · have HB1 := hide hb1
    have HI := hide him
    have HOK := hide hok
    have HV := hide hvd
    have HL := hide hlm
    have HS := hide ((unhide H).keep (unhide HB1))
    obtain ⟨hK1, hF1, hL1⟩ := hvd.few
    have q0 := neqNil0
    clear hb1 him hok hvd hlm
    go_wp2_with fail
    have HI1 := hide ((unhide HI).keep (Below.drew (Below.refl _ _)))
    have HS1 := hide ((unhide HS).keep (Below.drew (Below.refl _ _)))
    have HB2 := hide (Below.drew (unhide HB1))
    refine wp_region_held_drew (S := fun w' => (convert 40 9 (.slice g l.length cap)).run Tryd.prog w' = .ok (.string (strOfNums l)) w') (by kernel_rfl) (bytes_str (unhide HS1) cap) (fun hHeld => ?_)
    refine wpAnyH_take (i := 0) (oi := { dst := some 63, op := _, type := _, pos := _, after := _, guard := _ }) (v := ?_) rfl (by kernel_rfl) (by kernel_rfl) (by kernel_rfl) (fun _ _ _ h => h) (Or.inl ⟨by rfl, ?_⟩) (by assumption) ?_
    case refine_2 =>
      intro w hSw
      try dsimp only at hSw
      go_simp
      try with_reducible rfl
    simp only [Act.put, List.setIfInBounds_toArray, List.set_cons_zero, List.set_cons_succ]
    refine wpAnyH_take (i := 1) (oi := { dst := some 64, op := _, type := _, pos := _, after := _, guard := _ }) (v := ?_) rfl (by kernel_rfl) (by kernel_rfl) (by kernel_rfl) (fun _ _ _ h => h) (Or.inl ⟨by rfl, ?_⟩) (by assumption) ?_
    case refine_2 =>
      intro w hSw
      try dsimp only at hSw
      go_simp
      try with_reducible rfl
    simp only [Act.put, List.setIfInBounds_toArray, List.set_cons_zero, List.set_cons_succ]
    refine wpAnyH_take (i := 2) (oi := { dst := some 65, op := _, type := _, pos := _, after := _, guard := _ }) (v := ?_) rfl (by kernel_rfl) (by kernel_rfl) (by kernel_rfl) (fun _ _ _ h => h) (Or.inl ⟨by rfl, ?_⟩) (by assumption) ?_
    case refine_2 =>
      intro w hSw
      try dsimp only at hSw
      go_simp
      try with_reducible rfl
    simp only [Act.put, List.setIfInBounds_toArray, List.set_cons_zero, List.set_cons_succ]
    refine wpAnyH_take (i := 3) (oi := { dst := some 66, op := _, type := _, pos := _, after := _, guard := _ }) (v := ?_) rfl (by kernel_rfl) (by kernel_rfl) (by kernel_rfl) (fun _ _ _ h => h) (Or.inl ⟨by rfl, ?_⟩) (by assumption) ?_
    case refine_2 =>
      intro w hSw
      try dsimp only at hSw
      go_simp
      try with_reducible rfl
    simp only [Act.put, List.setIfInBounds_toArray, List.set_cons_zero, List.set_cons_succ]
    refine wpAnyH_take (i := 7) (oi := { dst := some 70, op := _, type := _, pos := _, after := _, guard := _ }) (v := ?_) rfl (by kernel_rfl) (by kernel_rfl) (by kernel_rfl) (fun _ _ _ h => h) (Or.inl ⟨by rfl, ?_⟩) (by assumption) ?_
    case refine_2 =>
      intro w hSw
      try dsimp only at hSw
      go_simp
      try with_reducible rfl
    simp only [Act.put, List.setIfInBounds_toArray, List.set_cons_zero, List.set_cons_succ]
    refine wpAnyH_take (i := 8) (oi := { dst := some 71, op := _, type := _, pos := _, after := _, guard := _ }) (v := ?_) rfl (by kernel_rfl) (by kernel_rfl) (by kernel_rfl) (fun _ _ _ h => h) (Or.inl ⟨by rfl, ?_⟩) (by assumption) ?_
    case refine_2 =>
      intro w hSw
      try dsimp only at hSw
      go_simp
      try with_reducible rfl
    simp only [Act.put, List.setIfInBounds_toArray, List.set_cons_zero, List.set_cons_succ]
    refine wpAnyH_ready (rs := [4]) (by kernel_rfl) (by simp) ?_
    refine AllReadyH.cons (o := { dst := some 67, op := _, type := _, pos := _, after := _, guard := _ }) rfl (fun K hK => ?_) AllReadyH.nil
    go_simp
    refine (image_any (unhide HI1) hK1 hF1 hL1).mono ?_
    rintro e w2 ⟨hb2, i2, vf2, vc2, vk2, rfl, hi2⟩
    have HB3 := hide ((unhide HB2).trans (hb2.mono (unhide HB2).size))
    have HI2 := hide hi2
    have HS2 := hide ((unhide HS1).keep hb2)
    have HJ2 := hide ((unhide HI1).keep hb2)
    clear hb2 hi2
    refine hK.out _ _ (bytes_str (unhide HS2) cap) (fun hHeld2 => ?_)
    clear hK K
    refine wpAnyH_ready (rs := [5]) (by kernel_rfl) (by simp) ?_
    refine AllReadyH.cons (o := { dst := some 68, op := _, type := _, pos := _, after := _, guard := _ }) rfl (fun K hK => ?_) AllReadyH.nil
    go_simp
    refine (encode_any (unhide HI2) (unhide HOK) (by rw [← unhide HL]; exact (unhide H).byte) (by rw [← unhide HL]; omega)).mono ?_
    rintro e w3 ⟨v3, rfl, hb3, ho3⟩
    rw [← unhide HL] at ho3
    obtain ⟨g3, cap3, rfl, hy3⟩ := bytes_of_owns ho3 (unhide H).byte
    have HB4 := hide ((unhide HB3).trans (hb3.mono (unhide HB3).size))
    have HS3 := hide ((unhide HS2).keep hb3)
    have HJ3 := hide ((unhide HJ2).keep hb3)
    have hstr := bytes_str hy3 cap3
    clear hb3 ho3 hy3
    refine hK.out _ _ (bytes_str (unhide HS3) cap) (fun hHeld3 => ?_)
    clear hK K
    refine wpAnyH_ready (rs := [6]) (by kernel_rfl) (by simp) ?_
    refine AllReadyH.cons (o := { dst := some 69, op := _, type := _, pos := _, after := _, guard := _ }) rfl (fun K hK => ?_) AllReadyH.nil
    go_simp
    refine hK.out _ _ (by assumption) (fun hHeld4 => ?_)
    clear hK K hstr
    refine wpAnyH_take (i := 9) (oi := { dst := some 72, op := _, type := _, pos := _, after := _, guard := _ }) (v := ?_) rfl (by kernel_rfl) (by kernel_rfl) (by kernel_rfl) (fun _ _ _ h => h) (Or.inl ⟨by rfl, ?_⟩) (by assumption) ?_
    case refine_2 =>
      intro w hSw
      try dsimp only at hSw
      go_simp
      try with_reducible rfl
    simp only [Act.put, List.setIfInBounds_toArray, List.set_cons_zero, List.set_cons_succ]
    refine wpAnyH_take (i := 10) (oi := { dst := some 73, op := _, type := _, pos := _, after := _, guard := _ }) (v := ?_) rfl (by kernel_rfl) (by kernel_rfl) (by kernel_rfl) (fun _ _ _ h => h) (Or.inl ⟨by rfl, ?_⟩) (by assumption) ?_
    case refine_2 =>
      intro w hSw
      try dsimp only at hSw
      go_simp
      try with_reducible rfl
    simp only [Act.put, List.setIfInBounds_toArray, List.set_cons_zero, List.set_cons_succ]
    refine wpAnyH_take (i := 11) (oi := { dst := some 74, op := _, type := _, pos := _, after := _, guard := _ }) (v := ?_) rfl (by kernel_rfl) (by kernel_rfl) (by kernel_rfl) (fun _ _ _ h => h) (Or.inl ⟨by rfl, ?_⟩) (by assumption) ?_
    case refine_2 =>
      intro w hSw
      try dsimp only at hSw
      go_simp
      try with_reducible rfl
    simp only [Act.put, List.setIfInBounds_toArray, List.set_cons_zero, List.set_cons_succ]
    refine wpAnyH_take (i := 12) (oi := { dst := some 75, op := _, type := _, pos := _, after := _, guard := _ }) (v := ?_) rfl (by kernel_rfl) (by kernel_rfl) (by kernel_rfl) (fun _ _ _ h => h) (Or.inl ⟨by rfl, ?_⟩) (by assumption) ?_
    case refine_2 =>
      intro w hSw
      try dsimp only at hSw
      go_simp
      try with_reducible rfl
    simp only [Act.put, List.setIfInBounds_toArray, List.set_cons_zero, List.set_cons_succ]
    refine wpAnyH_ready (rs := [13]) (by kernel_rfl) (by simp) ?_
    refine AllReadyH.cons (o := { dst := some 76, op := _, type := _, pos := _, after := _, guard := _ }) rfl (fun K hK => ?_) AllReadyH.nil
    go_simp
    refine (image_any (unhide HJ3) hK1 hF1 hL1).mono ?_
    rintro e w4 ⟨hb4, i4, vf4, vc4, vk4, rfl, hi4⟩
    have HB5 := hide ((unhide HB4).trans (hb4.mono (unhide HB4).size))
    have HI4 := hide hi4
    have HS4 := hide ((unhide HS3).keep hb4)
    clear hb4 hi4
    refine hK.out _ _ (bytes_str (unhide HS4) cap) (fun hHeld5 => ?_)
    clear hK K
    refine wpAnyH_ready (rs := [14]) (by kernel_rfl) (by simp) ?_
    refine AllReadyH.cons (o := { dst := some 77, op := _, type := _, pos := _, after := _, guard := _ }) rfl (fun K hK => ?_) AllReadyH.nil
    go_simp
    refine (img_all (unhide HI4) (unhide HOK).inM ((unhide HFN).keep (unhide HB5))).mono ?_
    rintro e w5 ⟨hb5, n5, p5, rfl, hv5⟩
    obtain ⟨rfl, rfl⟩ := (unhide HV).one hv5
    have HB6 := hide ((unhide HB5).trans (hb5.mono (unhide HB5).size))
    have HS5 := hide ((unhide HS4).keep hb5)
    clear hb5 hv5
    refine hK.out _ _ (bytes_str (unhide HS5) cap) (fun hHeld6 => ?_)
    clear hK K
    have hfd : ∀ w, (Go.Instr.field 35 (.agg #[.int .i64 0, .int .i64 (-1)]) 0).run Tryd.prog w = .ok (.int .i64 0) w := fun w => by kernel_rfl
    refine wpAnyH_take (i := 15) (oi := { dst := some 78, op := _, type := _, pos := _, after := _, guard := _ }) (v := ?_) rfl (by kernel_rfl) (by kernel_rfl) (by kernel_rfl) (fun _ _ _ h => h) (Or.inl ⟨by rfl, ?_⟩) (by assumption) ?_
    case refine_2 =>
      intro w hSw
      try dsimp only at hSw
      go_simp
      try with_reducible rfl
    simp only [Act.put, List.setIfInBounds_toArray, List.set_cons_zero, List.set_cons_succ]
    refine wpAnyH_take (i := 16) (oi := { dst := some 79, op := _, type := _, pos := _, after := _, guard := _ }) (v := ?_) rfl (by kernel_rfl) (by kernel_rfl) (by kernel_rfl) (fun _ _ _ h => h) (Or.inl ⟨by rfl, ?_⟩) (by assumption) ?_
    case refine_2 =>
      intro w hSw
      try dsimp only at hSw
      go_simp
      try with_reducible rfl
    simp only [Act.put, List.setIfInBounds_toArray, List.set_cons_zero, List.set_cons_succ]
    refine wpAnyH_take (i := 17) (oi := { dst := some 80, op := _, type := _, pos := _, after := _, guard := _ }) (v := ?_) rfl (by kernel_rfl) (by kernel_rfl) (by kernel_rfl) (fun _ _ _ h => h) (Or.inl ⟨by rfl, ?_⟩) (by assumption) ?_
    case refine_2 =>
      intro w hSw
      try dsimp only at hSw
      go_simp
      try with_reducible rfl
    simp only [Act.put, List.setIfInBounds_toArray, List.set_cons_zero, List.set_cons_succ]
    refine wpAnyH_take (i := 18) (oi := { dst := some 2, op := _, type := _, pos := _, after := _, guard := _ }) (v := ?_) rfl (by kernel_rfl) (by kernel_rfl) (by kernel_rfl) (fun _ _ _ h => h) (Or.inl ⟨by rfl, ?_⟩) (by assumption) ?_
    case refine_2 =>
      intro w hSw
      try dsimp only at hSw
      go_simp
      try with_reducible rfl
    simp only [Act.put, List.setIfInBounds_toArray, List.set_cons_zero, List.set_cons_succ]
    refine wpAnyH_done (by kernel_rfl) ?_ _
    go_wp2_with fail
    go_ret
    exact ⟨rfl, unhide HB6⟩
end Go.Proofs.YtkafldkhmkdafaaDoor
