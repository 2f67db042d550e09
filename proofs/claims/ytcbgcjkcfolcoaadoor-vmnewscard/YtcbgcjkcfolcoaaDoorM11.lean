/-
  vm.copyImage: an image of its own, alike.
  vm.newFrame, vm.unknownCollect, slices.ContainsFunc.
  heap.New, for any two numbers (beside an image).
-/
import Derived.Test.YtcbgcjkcfolcoaaDoorM10
namespace Go.Proofs.YtcbgcjkcfolcoaaDoor
open Go.RowKit

theorem cell_off {w : World} {g i j : Nat} {u v : Value} (h : w.cell? ⟨g, j, none⟩ = some u) (hne : i ≠ j) : (w.setCell ⟨g, i, none⟩ v).cell? ⟨g, j, none⟩ = some u := by
  have := World.cell?_setCell_other w (a := ⟨g, i, none⟩) (b := ⟨g, j, none⟩) (v := v) (by intro e; cases e; exact hne rfl)
  exact this.trans h
theorem cell_off2 {w : World} {g i i' j : Nat} {u v v' : Value} (h : w.cell? ⟨g, j, none⟩ = some u) (hne : i ≠ j) (hne' : i' ≠ j) : ((w.setCell ⟨g, i, none⟩ v).setCell ⟨g, i', none⟩ v').cell? ⟨g, j, none⟩ = some u := cell_off (cell_off h hne) hne'

theorem SlAt.drewS {w : World} {v : Value} {n k b : Nat} {R : Nat → Nat → Value} (h : SlAt w v n k b R) : SlAt w.drew v n k b R := h
theorem SlAt.bytes {w : World} {v : Value} {n k b : Nat} {R : Nat → Nat → Value} (h : SlAt w v n k b R) : n * b ≤ 140737488355328 := by
  obtain ⟨_, _, _, h, _⟩ := h
  exact h

set_option maxRecDepth 100000 in
set_option maxHeartbeats 20000000 in
theorem copyImage_any {w : World} {b : Nat} {m : PM} {vf vc vk : Value} (h : ImgAt w b m vf vc vk) :
    Calls Tryd.prog 14 #[.pointer (some ⟨b, 0, none⟩)] w fun e w' => Below w.heap.size w w' ∧ ∃ cb v1 v2 v3, e = .returned (.pointer (some ⟨cb, 0, none⟩)) ∧ w.heap.size ≤ cb ∧ ImgAt w' cb m v1 v2 v3 := by
  obtain ⟨RF, hsf, hRF⟩ := h.img.funcs
  have hsc := h.img.consts
  obtain ⟨RK, hsk, hRK⟩ := h.img.classes
  have HSF := hide hsf
  have HSC := hide hsc
  have HSK := hide hsk
  have HRF := hide hRF
  have HRK := hide hRK
  have HOF := hide (show ∀ i j, i < m.funcs.length → j < 6 → (RF i j).oneCell' = true from fun i j hi hj => row1_fn (hRF i _ (List.getElem?_eq_getElem hi)) j hj)
  have HOK := hide (show ∀ i j, i < m.classes.length → j < 5 → (RK i j).oneCell' = true from fun i j hi hj => row1_kd (hRK i _ (List.getElem?_eq_getElem hi)) j hj)
  have m0 := h.c0
  have m1 := h.c1
  have m2 := h.c2
  obtain ⟨gf, capf, rfl, nf, _⟩ := hsf
  obtain ⟨gc, capc, rfl, nc, _⟩ := hsc
  obtain ⟨gk, capk, rfl, nk, _⟩ := hsk
  have NF := hide nf
  have NC := hide nc
  have NK := hide nk
  clear h hRF hRK nf nc nk
  have ent1 : ∀ (v : Value) (w : World), Sem.run Tryd.prog (callFunc 26 #[v]) w = .ok (.enter 26 #[v]) w := fun _ _ => by kernel_rfl
  have ent2 : ∀ (v : Value) (w : World), Sem.run Tryd.prog (callFunc 27 #[v]) w = .ok (.enter 27 #[v]) w := fun _ _ => by kernel_rfl
  have ent3 : ∀ (v : Value) (w : World), Sem.run Tryd.prog (callFunc 28 #[v]) w = .ok (.enter 28 #[v]) w := fun _ _ => by kernel_rfl
  have ent4 : ∀ (v : Value) (w : World), Sem.run Tryd.prog (callFunc 29 #[v]) w = .ok (.enter 29 #[v]) w := fun _ _ => by kernel_rfl
  have ent5 : ∀ (v : Value) (w : World), Sem.run Tryd.prog (callFunc 15 #[v]) w = .ok (.enter 15 #[v]) w := fun _ _ => by kernel_rfl
  go_enter Tryd.func14, Tryd.ntmps14
  go_wp2_with fail
  go_cut [3] (fun p wc => ∃ cb, p = .pointer (some ⟨cb, 0, none⟩) ∧ Hid (∃ v1 v2 v3, Cop w wc m cb v1 v2 v3 RF RK))
  case first =>
    go_region_held3 (fun w' => w'.cell? ⟨b, 0, none⟩ = some (.slice gf m.funcs.length capf) ∧ w'.cell? ⟨b, 1, none⟩ = some (.slice gc m.consts.length capc) ∧ w'.cell? ⟨b, 2, none⟩ = some (.slice gk m.classes.length capk)) (go_keep)
      (first
        | (go_at_call 23; refine (cloneFunc_any ((unhide HSF).keep (Below.refl _ _).drew) (unhide HOF)).mono ?_; rintro e w1 ⟨hb1, a1, p1, x1, rfl, ho1, hf1⟩; have k10 := cellk hb1 m0 (cell_lt m0); have k11 := cellk hb1 m1 (cell_lt m1); have k12 := cellk hb1 m2 (cell_lt m2); have HB1 := hide hb1; have HO1 := hide ho1; have HF1 := hide hf1; clear hb1 ho1 hf1)
        | (go_at_call 24; refine (cloneConst_any ((unhide HSC).keep ((Below.refl _ _).drew.trans (unhide HB1))) (row1_const _)).mono ?_; rintro e w2 ⟨hb2, a2, p2, x2, rfl, ho2, hf2⟩; have k20 := cellk hb2 k10 (cell_lt k10); have k21 := cellk hb2 k11 (cell_lt k11); have k22 := cellk hb2 k12 (cell_lt k12); have HB2 := hide hb2; have HO2 := hide ho2; have HF2 := hide hf2; clear hb2 ho2 hf2)
        | (go_at_call 25; refine (cloneClass_any ((unhide HSK).keep (((Below.refl _ _).drew.trans (unhide HB1)).trans ((unhide HB2).mono (unhide HB1).size))) (unhide HOK)).mono ?_; rintro e w3 ⟨hb3, a3, p3, x3, rfl, ho3, hf3⟩; have k30 := cellk hb3 k20 (cell_lt k20); have k31 := cellk hb3 k21 (cell_lt k21); have k32 := cellk hb3 k22 (cell_lt k22); have HB3 := hide hb3; have HO3 := hide ho3; have HF3 := hide hf3; clear hb3 ho3 hf3))
    all_goals
      go_wp2_with fail
      go_meet
      exact ⟨_, rfl, _, _, _, cop_make (unhide HRF) (unhide HRK) (unhide NC) (Below.refl _ _).drew rfl (unhide HB1) (unhide HO1) (unhide HF1) (unhide HB2) (unhide HO2) (unhide HF2) (unhide HB3) (unhide HO3) (unhide HF3)⟩
  obtain ⟨cb, rfl, HC⟩ := hcut
  obtain ⟨v1, v2, v3, hc⟩ := unhide HC
  obtain ⟨ga, ca, rfl⟩ := hc.fs.form
  obtain ⟨gb, cbb, rfl⟩ := hc.ks.form
  have HCC := hide hc
  have c0 : wc.cell? ⟨cb, 0, none⟩ = some (.slice ga m.funcs.length ca) := hcell hc.blk 0
  clear HC hc m0 m1 m2 HSF HSC HSK HOF HOK
  go_wp2_with fail
  clear c0
  go_loopg [30] m.funcs.length (fun gg i wr => ∃ k : Nat, k ≤ m.funcs.length ∧ gg = m.funcs.length - k ∧ i = .int .i64 k ∧ Hid (wc.grownBy wr (Value.slice ga m.funcs.length ca).ownBlock ∧ ∃ R, RowIn w.heap.size wc.heap.size 6 FnIs wr (.slice ga m.funcs.length ca) m.funcs R))
  case atStart => exact ⟨0, Nat.zero_le _, rfl, rfl, ⟨rfl, rfl, rfl, Nat.le_refl _, fun _ _ _ => rfl⟩, RF, (unhide HCC).fs⟩
  case round =>
    obtain ⟨k, hk, rfl, rfl, HY⟩ := hrel
    by_cases hlk : k < m.funcs.length
    · obtain ⟨hg, R, hR⟩ := unhide HY
      have hx : m.funcs[k]? = some (m.funcs[k]'hlk) := List.getElem?_eq_getElem _
      generalize (m.funcs[k]'hlk) = x at *
      rcases hR with ⟨e, _⟩ | ⟨g, cap, e, hlo, hhi, hR⟩
      · rw [e] at hlk; simp at hlk
      cases e
      have c0 : wr.cell? ⟨cb, 0, none⟩ = some (.slice (some ⟨g, 0, none⟩) m.funcs.length ca) := hcell ((unhide HCC).next hg).2.1 0
      have HX := hide hx
      have HG := hide hg
      have HR := hide hR
      have HLO := hide hlo
      have HHI := hide hhi
      obtain ⟨f0, f1, f2, s3, s4, s5⟩ := hR.is k x hx
      have H3 := hide s3
      have H4 := hide s4
      have H5 := hide s5
      have N3 := hide s3.bytes
      have N4 := hide s4.bytes
      have N5 := hide s5.bytes
      obtain ⟨g3, p3, e3, _, _⟩ := s3
      obtain ⟨g4, p4, e4, _, _⟩ := s4
      obtain ⟨g5, p5, e5, _, _⟩ := s5
      have d3 : wr.cell? ⟨g, k * 6 + 3, none⟩ = some (.slice g3 x.code.length p3) := by rw [← e3]; exact hR.cell hlk (by decide)
      have d4 : wr.cell? ⟨g, k * 6 + 4, none⟩ = some (.slice g4 x.hands.length p4) := by rw [← e4]; exact hR.cell hlk (by decide)
      have d5 : wr.cell? ⟨g, k * 6 + 5, none⟩ = some (.slice g5 x.vars.length p5) := by rw [← e5]; exact hR.cell hlk (by decide)
      rw [e3] at H3
      rw [e4] at H4
      rw [e5] at H5
      have hk2 : (k : Int) < (m.funcs.length : Int) := by omega
      clear hx hR hg hlo hhi f0 f1 f2 HY e3 e4 e5
      go_wp2_with fail
      refine region_till (S := (fun w' => w'.cell? ⟨g, k * 6 + 3, none⟩ = some (.slice g3 x.code.length p3) ∧ w'.cell? ⟨g, k * 6 + 4, none⟩ = some (.slice g4 x.hands.length p4) ∧ w'.cell? ⟨g, k * 6 + 5, none⟩ = some (.slice g5 x.vars.length p5))) 17 (by kernel_rfl) ⟨d3, d4, d5⟩ (fun hHeld => ?_)
      refine tillC_pure (i := 0) (oi := { dst := some 39, op := _, type := _, pos := _, after := _, guard := _ }) (v := ?_) rfl (by kernel_rfl) (by kernel_rfl) (by kernel_rfl) (by rfl) (fun _ _ _ h => h) (Or.inl ⟨by rfl, ?_⟩) (by assumption) ?_
      case refine_2 =>
        intro w hSw
        try dsimp only at hSw
        go_simp
        try with_reducible rfl
      simp only [Act.put, List.setIfInBounds_toArray, List.set_cons_zero, List.set_cons_succ]
      refine tillC_pure (i := 1) (oi := { dst := some 40, op := _, type := _, pos := _, after := _, guard := _ }) (v := ?_) rfl (by kernel_rfl) (by kernel_rfl) (by kernel_rfl) (by rfl) (fun _ _ _ h => h) (Or.inl ⟨by rfl, ?_⟩) (by assumption) ?_
      case refine_2 =>
        intro w hSw
        try dsimp only at hSw
        go_simp
        try with_reducible rfl
      simp only [Act.put, List.setIfInBounds_toArray, List.set_cons_zero, List.set_cons_succ]
      refine tillC_pure (i := 2) (oi := { dst := some 41, op := _, type := _, pos := _, after := _, guard := _ }) (v := ?_) rfl (by kernel_rfl) (by kernel_rfl) (by kernel_rfl) (by rfl) (fun _ _ _ h => h) (Or.inl ⟨by rfl, ?_⟩) (by assumption) ?_
      case refine_2 =>
        intro w hSw
        try dsimp only at hSw
        go_simp
        try with_reducible rfl
      simp only [Act.put, List.setIfInBounds_toArray, List.set_cons_zero, List.set_cons_succ]
      refine tillC_pure (i := 3) (oi := { dst := some 42, op := _, type := _, pos := _, after := _, guard := _ }) (v := ?_) rfl (by kernel_rfl) (by kernel_rfl) (by kernel_rfl) (by rfl) (fun _ _ _ h => h) (Or.inl ⟨by rfl, ?_⟩) (by assumption) ?_
      case refine_2 =>
        intro w hSw
        try dsimp only at hSw
        go_simp
        try with_reducible rfl
      simp only [Act.put, List.setIfInBounds_toArray, List.set_cons_zero, List.set_cons_succ]
      refine tillC_pure (i := 4) (oi := { dst := some 43, op := _, type := _, pos := _, after := _, guard := _ }) (v := ?_) rfl (by kernel_rfl) (by kernel_rfl) (by kernel_rfl) (by rfl) (fun _ _ _ h => h) (Or.inl ⟨by rfl, ?_⟩) (by assumption) ?_
      case refine_2 =>
        intro w hSw
        try dsimp only at hSw
        go_simp
        try with_reducible rfl
      simp only [Act.put, List.setIfInBounds_toArray, List.set_cons_zero, List.set_cons_succ]
      refine tillC_pure (i := 5) (oi := { dst := some 44, op := _, type := _, pos := _, after := _, guard := _ }) (v := ?_) rfl (by kernel_rfl) (by kernel_rfl) (by kernel_rfl) (by rfl) (fun _ _ _ h => h) (Or.inl ⟨by rfl, ?_⟩) (by assumption) ?_
      case refine_2 =>
        intro w hSw
        try dsimp only at hSw
        go_simp
        try with_reducible rfl
      simp only [Act.put, List.setIfInBounds_toArray, List.set_cons_zero, List.set_cons_succ]
      refine tillC_take (i := 6) (cs := [7, 12, 17]) (oi := { dst := some 45, op := _, type := _, pos := _, after := _, guard := _ }) (v := ?_) rfl (by kernel_rfl) (by kernel_rfl) (by kernel_rfl) (by rfl) (by kernel_rfl) (fun _ _ _ h => h) (Or.inl ⟨by rfl, ?_⟩) (by assumption) ?_
      case refine_2 =>
        intro w hSw
        try dsimp only at hSw
        go_simp
        try with_reducible rfl
      simp only [Act.put, List.setIfInBounds_toArray, List.set_cons_zero, List.set_cons_succ]
      refine tillC_pure (i := 8) (oi := { dst := some 47, op := _, type := _, pos := _, after := _, guard := _ }) (v := ?_) rfl (by kernel_rfl) (by kernel_rfl) (by kernel_rfl) (by rfl) (fun _ _ _ h => h) (Or.inl ⟨by rfl, ?_⟩) (by assumption) ?_
      case refine_2 =>
        intro w hSw
        try dsimp only at hSw
        go_simp
        try with_reducible rfl
      simp only [Act.put, List.setIfInBounds_toArray, List.set_cons_zero, List.set_cons_succ]
      refine tillC_pure (i := 9) (oi := { dst := some 48, op := _, type := _, pos := _, after := _, guard := _ }) (v := ?_) rfl (by kernel_rfl) (by kernel_rfl) (by kernel_rfl) (by rfl) (fun _ _ _ h => h) (Or.inl ⟨by rfl, ?_⟩) (by assumption) ?_
      case refine_2 =>
        intro w hSw
        try dsimp only at hSw
        go_simp
        try with_reducible rfl
      simp only [Act.put, List.setIfInBounds_toArray, List.set_cons_zero, List.set_cons_succ]
      refine tillC_pure (i := 10) (oi := { dst := some 49, op := _, type := _, pos := _, after := _, guard := _ }) (v := ?_) rfl (by kernel_rfl) (by kernel_rfl) (by kernel_rfl) (by rfl) (fun _ _ _ h => h) (Or.inl ⟨by rfl, ?_⟩) (by assumption) ?_
      case refine_2 =>
        intro w hSw
        try dsimp only at hSw
        go_simp
        try with_reducible rfl
      simp only [Act.put, List.setIfInBounds_toArray, List.set_cons_zero, List.set_cons_succ]
      refine tillC_take (i := 11) (cs := [12, 17]) (oi := { dst := some 50, op := _, type := _, pos := _, after := _, guard := _ }) (v := ?_) rfl (by kernel_rfl) (by kernel_rfl) (by kernel_rfl) (by rfl) (by kernel_rfl) (fun _ _ _ h => h) (Or.inl ⟨by rfl, ?_⟩) (by assumption) ?_
      case refine_2 =>
        intro w hSw
        try dsimp only at hSw
        go_simp
        try with_reducible rfl
      simp only [Act.put, List.setIfInBounds_toArray, List.set_cons_zero, List.set_cons_succ]
      refine tillC_pure (i := 13) (oi := { dst := some 52, op := _, type := _, pos := _, after := _, guard := _ }) (v := ?_) rfl (by kernel_rfl) (by kernel_rfl) (by kernel_rfl) (by rfl) (fun _ _ _ h => h) (Or.inl ⟨by rfl, ?_⟩) (by assumption) ?_
      case refine_2 =>
        intro w hSw
        try dsimp only at hSw
        go_simp
        try with_reducible rfl
      simp only [Act.put, List.setIfInBounds_toArray, List.set_cons_zero, List.set_cons_succ]
      refine tillC_pure (i := 14) (oi := { dst := some 53, op := _, type := _, pos := _, after := _, guard := _ }) (v := ?_) rfl (by kernel_rfl) (by kernel_rfl) (by kernel_rfl) (by rfl) (fun _ _ _ h => h) (Or.inl ⟨by rfl, ?_⟩) (by assumption) ?_
      case refine_2 =>
        intro w hSw
        try dsimp only at hSw
        go_simp
        try with_reducible rfl
      simp only [Act.put, List.setIfInBounds_toArray, List.set_cons_zero, List.set_cons_succ]
      refine tillC_pure (i := 15) (oi := { dst := some 54, op := _, type := _, pos := _, after := _, guard := _ }) (v := ?_) rfl (by kernel_rfl) (by kernel_rfl) (by kernel_rfl) (by rfl) (fun _ _ _ h => h) (Or.inl ⟨by rfl, ?_⟩) (by assumption) ?_
      case refine_2 =>
        intro w hSw
        try dsimp only at hSw
        go_simp
        try with_reducible rfl
      simp only [Act.put, List.setIfInBounds_toArray, List.set_cons_zero, List.set_cons_succ]
      refine tillC_take (i := 16) (cs := [17]) (oi := { dst := some 55, op := _, type := _, pos := _, after := _, guard := _ }) (v := ?_) rfl (by kernel_rfl) (by kernel_rfl) (by kernel_rfl) (by rfl) (by kernel_rfl) (fun _ _ _ h => h) (Or.inl ⟨by rfl, ?_⟩) (by assumption) ?_
      case refine_2 =>
        intro w hSw
        try dsimp only at hSw
        go_simp
        try with_reducible rfl
      simp only [Act.put, List.setIfInBounds_toArray, List.set_cons_zero, List.set_cons_succ]
      refine tillC_one (i := 7) (o := { dst := some 46, op := _, type := _, pos := _, after := _, guard := _ }) (by kernel_rfl) rfl (fun K hK => ?_)
      refine step_enter rfl (by simp [Act.eval, ent1, go_sem]) ((cloneInstr_any (unhide H3).drewS (row1_instr _)).mono ?_)
      rintro e w1 ⟨hb1, a1, q1, x1, rfl, ho1, hf1⟩
      have k13 := cellk hb1 d3 (cell_lt d3)
      have k14 := cellk hb1 d4 (cell_lt d4)
      have k15 := cellk hb1 d5 (cell_lt d5)
      have HB1 := hide hb1
      have HS1 := hide (SlOwn.own (b := 24) ho1 hf1 (unhide N3))
      clear hb1 ho1 hf1
      refine hK.out _ _ ⟨k13, k14, k15⟩ (fun hHeld => ?_)
      clear hK K
      simp only [Act.put, List.setIfInBounds_toArray, List.set_cons_zero, List.set_cons_succ]
      refine tillC_one (i := 12) (o := { dst := some 51, op := _, type := _, pos := _, after := _, guard := _ }) (by kernel_rfl) rfl (fun K hK => ?_)
      refine step_enter rfl (by simp [Act.eval, ent2, go_sem]) ((cloneHandler_any ((unhide H4).keep ((Below.refl _ _).drew.trans (unhide HB1))) (row1_hand _)).mono ?_)
      rintro e w2 ⟨hb2, a2, q2, x2, rfl, ho2, hf2⟩
      have k23 := cellk hb2 k13 (cell_lt k13)
      have k24 := cellk hb2 k14 (cell_lt k14)
      have k25 := cellk hb2 k15 (cell_lt k15)
      have HB2 := hide hb2
      have HS2 := hide (SlOwn.own (b := 24) ho2 hf2 (unhide N4))
      clear hb2 ho2 hf2
      refine hK.out _ _ ⟨k23, k24, k25⟩ (fun hHeld => ?_)
      clear hK K
      simp only [Act.put, List.setIfInBounds_toArray, List.set_cons_zero, List.set_cons_succ]
      refine tillC_c (o := { dst := some 56, op := _, type := _, pos := _, after := _, guard := _ }) (by kernel_rfl) rfl (fun K hK => ?_)
      refine step_enter rfl (by simp [Act.eval, ent3, go_sem]) ((cloneVar_any ((unhide H5).keep (((Below.refl _ _).drew.trans (unhide HB1)).trans ((unhide HB2).mono (unhide HB1).size))) (row1_var _)).mono ?_)
      rintro e w3 ⟨hb3, a3, q3, x3, rfl, ho3, hf3⟩
      have HB3 := hide (((Below.refl _ _).drew.trans (unhide HB1)).trans (((unhide HB2).mono (unhide HB1).size).trans (hb3.mono (Nat.le_trans (unhide HB1).size (unhide HB2).size))))
      have k33 := cellk hb3 k23 (cell_lt k23)
      have k34 := fun v => cell_off (v := v) (i := k * 6 + 3) (cellk hb3 k24 (cell_lt k24)) (by omega)
      have k35 := fun v v' => cell_off2 (v := v) (v' := v') (i := k * 6 + 3) (i' := k * 6 + 4) (cellk hb3 k25 (cell_lt k25)) (by omega) (by omega)
      have HR3 := hide ((unhide HR).keep elemFn (unhide HB3))
      have z3 := (unhide HR3).froz (k * 6 + 3)
      have z4 := (unhide HR3).froz (k * 6 + 4)
      have z5 := (unhide HR3).froz (k * 6 + 5)
      have HS1b := hide (((unhide HS1).keep (unhide HB2)).keep hb3)
      have HS2b := hide ((unhide HS2).keep hb3)
      have HS3b := hide (SlOwn.own (b := 48) ho3 hf3 (unhide N5))
      clear hb3 ho3 hf3 k13 k14 k15 k23 k24 k25
      refine hK.out _ _ ?_
      clear hK K
      simp only [Act.put, List.setIfInBounds_toArray, List.set_cons_zero, List.set_cons_succ]
      refine wpAny_take (i := 18) (oi := { dst := some 57, op := _, type := _, pos := _, after := _, guard := _ }) (v := ?_) rfl (by kernel_rfl) (by kernel_rfl) (by kernel_rfl) (fun _ _ _ h => h) (Or.inl ⟨by rfl, ?_⟩) ?_
      case refine_2 =>
        intro w
        go_simp
        try with_reducible rfl
      simp only [Act.put, List.setIfInBounds_toArray, List.set_cons_zero, List.set_cons_succ]
      refine wpAny_take (i := 19) (oi := { dst := some 58, op := _, type := _, pos := _, after := _, guard := _ }) (v := ?_) rfl (by kernel_rfl) (by kernel_rfl) (by kernel_rfl) (fun _ _ _ h => h) (Or.inl ⟨by rfl, ?_⟩) ?_
      case refine_2 =>
        intro w
        go_simp
        try with_reducible rfl
      simp only [Act.put, List.setIfInBounds_toArray, List.set_cons_zero, List.set_cons_succ]
      refine any_one (i := 20) (o := { dst := none, op := _, type := _, pos := _, after := _, guard := _ }) (by kernel_rfl) rfl (fun K hK => ?_)
      go_simp
      refine hK.out _ _ ?_
      clear hK K
      refine wpAny_take (i := 21) (oi := { dst := some 59, op := _, type := _, pos := _, after := _, guard := _ }) (v := ?_) rfl (by kernel_rfl) (by kernel_rfl) (by kernel_rfl) (fun _ _ _ h => h) (Or.inl ⟨by rfl, ?_⟩) ?_
      case refine_2 =>
        intro w
        go_simp
        try with_reducible rfl
      simp only [Act.put, List.setIfInBounds_toArray, List.set_cons_zero, List.set_cons_succ]
      refine wpAny_take (i := 22) (oi := { dst := some 60, op := _, type := _, pos := _, after := _, guard := _ }) (v := ?_) rfl (by kernel_rfl) (by kernel_rfl) (by kernel_rfl) (fun _ _ _ h => h) (Or.inl ⟨by rfl, ?_⟩) ?_
      case refine_2 =>
        intro w
        go_simp
        try with_reducible rfl
      simp only [Act.put, List.setIfInBounds_toArray, List.set_cons_zero, List.set_cons_succ]
      refine any_one (i := 23) (o := { dst := none, op := _, type := _, pos := _, after := _, guard := _ }) (by kernel_rfl) rfl (fun K hK => ?_)
      go_simp
      refine hK.out _ _ ?_
      clear hK K
      refine wpAny_take (i := 24) (oi := { dst := some 61, op := _, type := _, pos := _, after := _, guard := _ }) (v := ?_) rfl (by kernel_rfl) (by kernel_rfl) (by kernel_rfl) (fun _ _ _ h => h) (Or.inl ⟨by rfl, ?_⟩) ?_
      case refine_2 =>
        intro w
        go_simp
        try with_reducible rfl
      simp only [Act.put, List.setIfInBounds_toArray, List.set_cons_zero, List.set_cons_succ]
      refine wpAny_take (i := 25) (oi := { dst := some 62, op := _, type := _, pos := _, after := _, guard := _ }) (v := ?_) rfl (by kernel_rfl) (by kernel_rfl) (by kernel_rfl) (fun _ _ _ h => h) (Or.inl ⟨by rfl, ?_⟩) ?_
      case refine_2 =>
        intro w
        go_simp
        try with_reducible rfl
      simp only [Act.put, List.setIfInBounds_toArray, List.set_cons_zero, List.set_cons_succ]
      refine any_one (i := 26) (o := { dst := none, op := _, type := _, pos := _, after := _, guard := _ }) (by kernel_rfl) rfl (fun K hK => ?_)
      go_simp
      refine hK.out _ _ ?_
      clear hK K
      refine wpAny_done (by kernel_rfl) ?_ _
      have hz1 : wc.heap.size ≤ wr.heap.size := (unhide HG).size
      have hz2 := Nat.le_trans hz1 (unhide HB1).size
      have hz3 := Nat.le_trans hz2 (unhide HB2).size
      have HRR := hide (fn_step (unhide HR) (unhide HX) ⟨unhide HLO, unhide HHI⟩ (unhide HB3) ((unhide HS1b).mono hz1) ((unhide HS2b).mono hz2) ((unhide HS3b).mono hz3))
      have HGG := hide (grown_step (a := k * 6 + 3) (b := k * 6 + 4) (c := k * 6 + 5) (v1 := .slice a1 x.code.length q1) (v2 := .slice a2 x.hands.length q2) (v3 := .slice a3 x.vars.length q3) (unhide HG) rfl (unhide HB3))
      have hnb : m.funcs.length ≤ 1353245080339 := by have := unhide NF; omega
      clear hz1 hz2 hz3 k33 k34 k35 z3 z4 z5 d3 d4 d5 hHeld
      go_wp2_with fail
      go_roundg (m.funcs.length - (k + 1))
      case measure => omega
      case rel => exact ⟨k + 1, by omega, rfl, by go_num, unhide HGG, _, Or.inr ⟨g, _, rfl, unhide HLO, unhide HHI, unhide HRR⟩⟩
    · obtain rfl : k = m.funcs.length := by omega
      obtain ⟨hg, R, hR⟩ := unhide HY
      obtain ⟨hb, hblk, hcs, hks⟩ := (unhide HCC).next hg
      have c2 : wr.cell? ⟨cb, 2, none⟩ = some (.slice gb m.classes.length cbb) := hcell hblk 2
      have hff : decide ((m.funcs.length : Int) < (m.funcs.length : Int)) = false := by simp
      have HG1 := hide hg
      have HR1 := hide hR
      have HKS := hide hks
      clear hlk hk hg hR hb hblk hcs hks HY
      go_wp2_with fail
      clear c2 hff
      rename World => wm
      go_loopg [69] m.classes.length (fun gg i wr => ∃ k : Nat, k ≤ m.classes.length ∧ gg = m.classes.length - k ∧ i = .int .i64 k ∧ Hid (wm.grownBy wr (Value.slice gb m.classes.length cbb).ownBlock ∧ ∃ R, RowIn w.heap.size wc.heap.size 5 KdIs wr (.slice gb m.classes.length cbb) m.classes R))
      case atStart => exact ⟨0, Nat.zero_le _, rfl, rfl, ⟨rfl, rfl, rfl, Nat.le_refl _, fun _ _ _ => rfl⟩, RK, unhide HKS⟩
      case round =>
        obtain ⟨k, hk, rfl, rfl, HY⟩ := hrel
        by_cases hlk : k < m.classes.length
        · obtain ⟨hg, R3, hR⟩ := unhide HY
          have hx : m.classes[k]? = some (m.classes[k]'hlk) := List.getElem?_eq_getElem _
          generalize (m.classes[k]'hlk) = x at *
          rcases hR with ⟨e, _⟩ | ⟨g, cap, e, hlo, hhi, hR⟩
          · rw [e] at hlk; simp at hlk
          cases e
          have hcb := (unhide HCC).o3
          have hblk := ((unhide HCC).next (unhide HG1)).2.1
          have c2 : wr.cell? ⟨cb, 2, none⟩ = some (.slice (some ⟨g, 0, none⟩) m.classes.length cbb) := hcell ((hg.block cb (hlt hblk) (fun e => by have := hcb cb e.symm; omega)).trans hblk) 2
          clear hcb hblk
          have HX := hide hx
          have HG := hide hg
          have HR := hide hR
          have HLO := hide hlo
          have HHI := hide hhi
          obtain ⟨f0, f1, s3, s4, s5⟩ := hR.is k x hx
          have H3 := hide s3
          have H4 := hide s4
          have H5 := hide s5
          have N3 := hide s3.bytes
          have N4 := hide s4.bytes
          have N5 := hide s5.bytes
          obtain ⟨g3, p3, e3, _, _⟩ := s3
          obtain ⟨g4, p4, e4, _, _⟩ := s4
          obtain ⟨g5, p5, e5, _, _⟩ := s5
          have d3 : wr.cell? ⟨g, k * 5 + 2, none⟩ = some (.slice g3 x.fields.length p3) := by rw [← e3]; exact hR.cell hlk (by decide)
          have d4 : wr.cell? ⟨g, k * 5 + 3, none⟩ = some (.slice g4 x.names.length p4) := by rw [← e4]; exact hR.cell hlk (by decide)
          have d5 : wr.cell? ⟨g, k * 5 + 4, none⟩ = some (.slice g5 x.meths.length p5) := by rw [← e5]; exact hR.cell hlk (by decide)
          rw [e3] at H3
          rw [e4] at H4
          rw [e5] at H5
          have hk2 : (k : Int) < (m.classes.length : Int) := by omega
          clear hx hR hg hlo hhi f0 f1 HY e3 e4 e5
          go_wp2_with fail
          refine region_till (S := (fun w' => w'.cell? ⟨g, k * 5 + 2, none⟩ = some (.slice g3 x.fields.length p3) ∧ w'.cell? ⟨g, k * 5 + 3, none⟩ = some (.slice g4 x.names.length p4) ∧ w'.cell? ⟨g, k * 5 + 4, none⟩ = some (.slice g5 x.meths.length p5))) 17 (by kernel_rfl) ⟨d3, d4, d5⟩ (fun hHeld => ?_)
          refine tillC_pure (i := 0) (oi := { dst := some 78, op := _, type := _, pos := _, after := _, guard := _ }) (v := ?_) rfl (by kernel_rfl) (by kernel_rfl) (by kernel_rfl) (by rfl) (fun _ _ _ h => h) (Or.inl ⟨by rfl, ?_⟩) (by assumption) ?_
          case refine_2 =>
            intro w hSw
            try dsimp only at hSw
            go_simp
            try with_reducible rfl
          simp only [Act.put, List.setIfInBounds_toArray, List.set_cons_zero, List.set_cons_succ]
          refine tillC_pure (i := 1) (oi := { dst := some 79, op := _, type := _, pos := _, after := _, guard := _ }) (v := ?_) rfl (by kernel_rfl) (by kernel_rfl) (by kernel_rfl) (by rfl) (fun _ _ _ h => h) (Or.inl ⟨by rfl, ?_⟩) (by assumption) ?_
          case refine_2 =>
            intro w hSw
            try dsimp only at hSw
            go_simp
            try with_reducible rfl
          simp only [Act.put, List.setIfInBounds_toArray, List.set_cons_zero, List.set_cons_succ]
          refine tillC_pure (i := 2) (oi := { dst := some 80, op := _, type := _, pos := _, after := _, guard := _ }) (v := ?_) rfl (by kernel_rfl) (by kernel_rfl) (by kernel_rfl) (by rfl) (fun _ _ _ h => h) (Or.inl ⟨by rfl, ?_⟩) (by assumption) ?_
          case refine_2 =>
            intro w hSw
            try dsimp only at hSw
            go_simp
            try with_reducible rfl
          simp only [Act.put, List.setIfInBounds_toArray, List.set_cons_zero, List.set_cons_succ]
          refine tillC_pure (i := 3) (oi := { dst := some 81, op := _, type := _, pos := _, after := _, guard := _ }) (v := ?_) rfl (by kernel_rfl) (by kernel_rfl) (by kernel_rfl) (by rfl) (fun _ _ _ h => h) (Or.inl ⟨by rfl, ?_⟩) (by assumption) ?_
          case refine_2 =>
            intro w hSw
            try dsimp only at hSw
            go_simp
            try with_reducible rfl
          simp only [Act.put, List.setIfInBounds_toArray, List.set_cons_zero, List.set_cons_succ]
          refine tillC_pure (i := 4) (oi := { dst := some 82, op := _, type := _, pos := _, after := _, guard := _ }) (v := ?_) rfl (by kernel_rfl) (by kernel_rfl) (by kernel_rfl) (by rfl) (fun _ _ _ h => h) (Or.inl ⟨by rfl, ?_⟩) (by assumption) ?_
          case refine_2 =>
            intro w hSw
            try dsimp only at hSw
            go_simp
            try with_reducible rfl
          simp only [Act.put, List.setIfInBounds_toArray, List.set_cons_zero, List.set_cons_succ]
          refine tillC_pure (i := 5) (oi := { dst := some 83, op := _, type := _, pos := _, after := _, guard := _ }) (v := ?_) rfl (by kernel_rfl) (by kernel_rfl) (by kernel_rfl) (by rfl) (fun _ _ _ h => h) (Or.inl ⟨by rfl, ?_⟩) (by assumption) ?_
          case refine_2 =>
            intro w hSw
            try dsimp only at hSw
            go_simp
            try with_reducible rfl
          simp only [Act.put, List.setIfInBounds_toArray, List.set_cons_zero, List.set_cons_succ]
          refine tillC_take (i := 6) (cs := [7, 12, 17]) (oi := { dst := some 84, op := _, type := _, pos := _, after := _, guard := _ }) (v := ?_) rfl (by kernel_rfl) (by kernel_rfl) (by kernel_rfl) (by rfl) (by kernel_rfl) (fun _ _ _ h => h) (Or.inl ⟨by rfl, ?_⟩) (by assumption) ?_
          case refine_2 =>
            intro w hSw
            try dsimp only at hSw
            go_simp
            try with_reducible rfl
          simp only [Act.put, List.setIfInBounds_toArray, List.set_cons_zero, List.set_cons_succ]
          refine tillC_pure (i := 8) (oi := { dst := some 86, op := _, type := _, pos := _, after := _, guard := _ }) (v := ?_) rfl (by kernel_rfl) (by kernel_rfl) (by kernel_rfl) (by rfl) (fun _ _ _ h => h) (Or.inl ⟨by rfl, ?_⟩) (by assumption) ?_
          case refine_2 =>
            intro w hSw
            try dsimp only at hSw
            go_simp
            try with_reducible rfl
          simp only [Act.put, List.setIfInBounds_toArray, List.set_cons_zero, List.set_cons_succ]
          refine tillC_pure (i := 9) (oi := { dst := some 87, op := _, type := _, pos := _, after := _, guard := _ }) (v := ?_) rfl (by kernel_rfl) (by kernel_rfl) (by kernel_rfl) (by rfl) (fun _ _ _ h => h) (Or.inl ⟨by rfl, ?_⟩) (by assumption) ?_
          case refine_2 =>
            intro w hSw
            try dsimp only at hSw
            go_simp
            try with_reducible rfl
          simp only [Act.put, List.setIfInBounds_toArray, List.set_cons_zero, List.set_cons_succ]
          refine tillC_pure (i := 10) (oi := { dst := some 88, op := _, type := _, pos := _, after := _, guard := _ }) (v := ?_) rfl (by kernel_rfl) (by kernel_rfl) (by kernel_rfl) (by rfl) (fun _ _ _ h => h) (Or.inl ⟨by rfl, ?_⟩) (by assumption) ?_
          case refine_2 =>
            intro w hSw
            try dsimp only at hSw
            go_simp
            try with_reducible rfl
          simp only [Act.put, List.setIfInBounds_toArray, List.set_cons_zero, List.set_cons_succ]
          refine tillC_take (i := 11) (cs := [12, 17]) (oi := { dst := some 89, op := _, type := _, pos := _, after := _, guard := _ }) (v := ?_) rfl (by kernel_rfl) (by kernel_rfl) (by kernel_rfl) (by rfl) (by kernel_rfl) (fun _ _ _ h => h) (Or.inl ⟨by rfl, ?_⟩) (by assumption) ?_
          case refine_2 =>
            intro w hSw
            try dsimp only at hSw
            go_simp
            try with_reducible rfl
          simp only [Act.put, List.setIfInBounds_toArray, List.set_cons_zero, List.set_cons_succ]
          refine tillC_pure (i := 13) (oi := { dst := some 91, op := _, type := _, pos := _, after := _, guard := _ }) (v := ?_) rfl (by kernel_rfl) (by kernel_rfl) (by kernel_rfl) (by rfl) (fun _ _ _ h => h) (Or.inl ⟨by rfl, ?_⟩) (by assumption) ?_
          case refine_2 =>
            intro w hSw
            try dsimp only at hSw
            go_simp
            try with_reducible rfl
          simp only [Act.put, List.setIfInBounds_toArray, List.set_cons_zero, List.set_cons_succ]
          refine tillC_pure (i := 14) (oi := { dst := some 92, op := _, type := _, pos := _, after := _, guard := _ }) (v := ?_) rfl (by kernel_rfl) (by kernel_rfl) (by kernel_rfl) (by rfl) (fun _ _ _ h => h) (Or.inl ⟨by rfl, ?_⟩) (by assumption) ?_
          case refine_2 =>
            intro w hSw
            try dsimp only at hSw
            go_simp
            try with_reducible rfl
          simp only [Act.put, List.setIfInBounds_toArray, List.set_cons_zero, List.set_cons_succ]
          refine tillC_pure (i := 15) (oi := { dst := some 93, op := _, type := _, pos := _, after := _, guard := _ }) (v := ?_) rfl (by kernel_rfl) (by kernel_rfl) (by kernel_rfl) (by rfl) (fun _ _ _ h => h) (Or.inl ⟨by rfl, ?_⟩) (by assumption) ?_
          case refine_2 =>
            intro w hSw
            try dsimp only at hSw
            go_simp
            try with_reducible rfl
          simp only [Act.put, List.setIfInBounds_toArray, List.set_cons_zero, List.set_cons_succ]
          refine tillC_take (i := 16) (cs := [17]) (oi := { dst := some 94, op := _, type := _, pos := _, after := _, guard := _ }) (v := ?_) rfl (by kernel_rfl) (by kernel_rfl) (by kernel_rfl) (by rfl) (by kernel_rfl) (fun _ _ _ h => h) (Or.inl ⟨by rfl, ?_⟩) (by assumption) ?_
          case refine_2 =>
            intro w hSw
            try dsimp only at hSw
            go_simp
            try with_reducible rfl
          simp only [Act.put, List.setIfInBounds_toArray, List.set_cons_zero, List.set_cons_succ]
          refine tillC_one (i := 7) (o := { dst := some 85, op := _, type := _, pos := _, after := _, guard := _ }) (by kernel_rfl) rfl (fun K hK => ?_)
          refine step_enter rfl (by simp [Act.eval, ent4, go_sem]) ((cloneStr_any (unhide H3).drewS (row1_str _)).mono ?_)
          rintro e w1 ⟨hb1, a1, q1, x1, rfl, ho1, hf1⟩
          have k13 := cellk hb1 d3 (cell_lt d3)
          have k14 := cellk hb1 d4 (cell_lt d4)
          have k15 := cellk hb1 d5 (cell_lt d5)
          have HB1 := hide hb1
          have HS1 := hide (SlOwn.own (b := 16) ho1 hf1 (unhide N3))
          clear hb1 ho1 hf1
          refine hK.out _ _ ⟨k13, k14, k15⟩ (fun hHeld => ?_)
          clear hK K
          simp only [Act.put, List.setIfInBounds_toArray, List.set_cons_zero, List.set_cons_succ]
          refine tillC_one (i := 12) (o := { dst := some 90, op := _, type := _, pos := _, after := _, guard := _ }) (by kernel_rfl) rfl (fun K hK => ?_)
          refine step_enter rfl (by simp [Act.eval, ent4, go_sem]) ((cloneStr_any ((unhide H4).keep ((Below.refl _ _).drew.trans (unhide HB1))) (row1_str _)).mono ?_)
          rintro e w2 ⟨hb2, a2, q2, x2, rfl, ho2, hf2⟩
          have k23 := cellk hb2 k13 (cell_lt k13)
          have k24 := cellk hb2 k14 (cell_lt k14)
          have k25 := cellk hb2 k15 (cell_lt k15)
          have HB2 := hide hb2
          have HS2 := hide (SlOwn.own (b := 16) ho2 hf2 (unhide N4))
          clear hb2 ho2 hf2
          refine hK.out _ _ ⟨k23, k24, k25⟩ (fun hHeld => ?_)
          clear hK K
          simp only [Act.put, List.setIfInBounds_toArray, List.set_cons_zero, List.set_cons_succ]
          refine tillC_c (o := { dst := some 95, op := _, type := _, pos := _, after := _, guard := _ }) (by kernel_rfl) rfl (fun K hK => ?_)
          refine step_enter rfl (by simp [Act.eval, ent5, go_sem]) ((cloneInt_any ((unhide H5).keep (((Below.refl _ _).drew.trans (unhide HB1)).trans ((unhide HB2).mono (unhide HB1).size))) (row1_int _)).mono ?_)
          rintro e w3 ⟨hb3, a3, q3, x3, rfl, ho3, hf3⟩
          have HB3 := hide (((Below.refl _ _).drew.trans (unhide HB1)).trans (((unhide HB2).mono (unhide HB1).size).trans (hb3.mono (Nat.le_trans (unhide HB1).size (unhide HB2).size))))
          have k33 := cellk hb3 k23 (cell_lt k23)
          have k34 := fun v => cell_off (v := v) (i := k * 5 + 2) (cellk hb3 k24 (cell_lt k24)) (by omega)
          have k35 := fun v v' => cell_off2 (v := v) (v' := v') (i := k * 5 + 2) (i' := k * 5 + 3) (cellk hb3 k25 (cell_lt k25)) (by omega) (by omega)
          have HR3 := hide ((unhide HR).keep elemKd (unhide HB3))
          have z3 := (unhide HR3).froz (k * 5 + 2)
          have z4 := (unhide HR3).froz (k * 5 + 3)
          have z5 := (unhide HR3).froz (k * 5 + 4)
          have HS1b := hide (((unhide HS1).keep (unhide HB2)).keep hb3)
          have HS2b := hide ((unhide HS2).keep hb3)
          have HS3b := hide (SlOwn.own (b := 8) ho3 hf3 (unhide N5))
          clear hb3 ho3 hf3 k13 k14 k15 k23 k24 k25
          refine hK.out _ _ ?_
          clear hK K
          simp only [Act.put, List.setIfInBounds_toArray, List.set_cons_zero, List.set_cons_succ]
          refine wpAny_take (i := 18) (oi := { dst := some 96, op := _, type := _, pos := _, after := _, guard := _ }) (v := ?_) rfl (by kernel_rfl) (by kernel_rfl) (by kernel_rfl) (fun _ _ _ h => h) (Or.inl ⟨by rfl, ?_⟩) ?_
          case refine_2 =>
            intro w
            go_simp
            try with_reducible rfl
          simp only [Act.put, List.setIfInBounds_toArray, List.set_cons_zero, List.set_cons_succ]
          refine wpAny_take (i := 19) (oi := { dst := some 97, op := _, type := _, pos := _, after := _, guard := _ }) (v := ?_) rfl (by kernel_rfl) (by kernel_rfl) (by kernel_rfl) (fun _ _ _ h => h) (Or.inl ⟨by rfl, ?_⟩) ?_
          case refine_2 =>
            intro w
            go_simp
            try with_reducible rfl
          simp only [Act.put, List.setIfInBounds_toArray, List.set_cons_zero, List.set_cons_succ]
          refine any_one (i := 20) (o := { dst := none, op := _, type := _, pos := _, after := _, guard := _ }) (by kernel_rfl) rfl (fun K hK => ?_)
          go_simp
          refine hK.out _ _ ?_
          clear hK K
          refine wpAny_take (i := 21) (oi := { dst := some 98, op := _, type := _, pos := _, after := _, guard := _ }) (v := ?_) rfl (by kernel_rfl) (by kernel_rfl) (by kernel_rfl) (fun _ _ _ h => h) (Or.inl ⟨by rfl, ?_⟩) ?_
          case refine_2 =>
            intro w
            go_simp
            try with_reducible rfl
          simp only [Act.put, List.setIfInBounds_toArray, List.set_cons_zero, List.set_cons_succ]
          refine wpAny_take (i := 22) (oi := { dst := some 99, op := _, type := _, pos := _, after := _, guard := _ }) (v := ?_) rfl (by kernel_rfl) (by kernel_rfl) (by kernel_rfl) (fun _ _ _ h => h) (Or.inl ⟨by rfl, ?_⟩) ?_
          case refine_2 =>
            intro w
            go_simp
            try with_reducible rfl
          simp only [Act.put, List.setIfInBounds_toArray, List.set_cons_zero, List.set_cons_succ]
          refine any_one (i := 23) (o := { dst := none, op := _, type := _, pos := _, after := _, guard := _ }) (by kernel_rfl) rfl (fun K hK => ?_)
          go_simp
          refine hK.out _ _ ?_
          clear hK K
          refine wpAny_take (i := 24) (oi := { dst := some 100, op := _, type := _, pos := _, after := _, guard := _ }) (v := ?_) rfl (by kernel_rfl) (by kernel_rfl) (by kernel_rfl) (fun _ _ _ h => h) (Or.inl ⟨by rfl, ?_⟩) ?_
          case refine_2 =>
            intro w
            go_simp
            try with_reducible rfl
          simp only [Act.put, List.setIfInBounds_toArray, List.set_cons_zero, List.set_cons_succ]
          refine wpAny_take (i := 25) (oi := { dst := some 101, op := _, type := _, pos := _, after := _, guard := _ }) (v := ?_) rfl (by kernel_rfl) (by kernel_rfl) (by kernel_rfl) (fun _ _ _ h => h) (Or.inl ⟨by rfl, ?_⟩) ?_
          case refine_2 =>
            intro w
            go_simp
            try with_reducible rfl
          simp only [Act.put, List.setIfInBounds_toArray, List.set_cons_zero, List.set_cons_succ]
          refine any_one (i := 26) (o := { dst := none, op := _, type := _, pos := _, after := _, guard := _ }) (by kernel_rfl) rfl (fun K hK => ?_)
          go_simp
          refine hK.out _ _ ?_
          clear hK K
          refine wpAny_done (by kernel_rfl) ?_ _
          have hz1 : wc.heap.size ≤ wr.heap.size := Nat.le_trans (unhide HG1).size (unhide HG).size
          have hz2 := Nat.le_trans hz1 (unhide HB1).size
          have hz3 := Nat.le_trans hz2 (unhide HB2).size
          have HRR := hide (kd_step (unhide HR) (unhide HX) ⟨unhide HLO, unhide HHI⟩ (unhide HB3) ((unhide HS1b).mono hz1) ((unhide HS2b).mono hz2) ((unhide HS3b).mono hz3))
          have HGG := hide (grown_step (a := k * 5 + 2) (b := k * 5 + 3) (c := k * 5 + 4) (v1 := .slice a1 x.fields.length q1) (v2 := .slice a2 x.names.length q2) (v3 := .slice a3 x.meths.length q3) (unhide HG) rfl (unhide HB3))
          have hnb : m.classes.length ≤ 1466015503701 := by have := unhide NK; omega
          clear hz1 hz2 hz3 k33 k34 k35 z3 z4 z5 d3 d4 d5 hHeld
          go_wp2_with fail
          go_roundg (m.classes.length - (k + 1))
          case measure => omega
          case rel => exact ⟨k + 1, by omega, rfl, by go_num, unhide HGG, _, Or.inr ⟨g, _, rfl, unhide HLO, unhide HHI, unhide HRR⟩⟩
        · obtain rfl : k = m.classes.length := by omega
          obtain ⟨hg, R3, hR⟩ := unhide HY
          have HE := hide ((unhide HCC).last (unhide HG1) (unhide HR1) hg hR (unhide NF) (unhide NK))
          have hff : decide ((m.classes.length : Int) < (m.classes.length : Int)) = false := by simp
          clear hlk hk hg hR HY
          go_wp2_with fail
          go_ret
          exact ⟨(unhide HE).1, cb, _, _, _, rfl, (unhide HCC).lo, (unhide HE).2⟩
end Go.Proofs.YtcbgcjkcfolcoaaDoor

namespace Go.Proofs.YtcbgcjkcfolcoaaDoor
open Go.RowKit

theorem infoVal : (Tryd.prog.info? 119).map (fun i => (i.zero, i.size, i.bytes)) = some (some (.agg #[.int .i64 0, .int .i64 0, .string ByteArray.empty]), 3, 32) := by kernel_rfl
/-- make, of elements of some cells. -/
theorem make_rows {P : Program} (t e : TypeId) (z : Value) (k bytes : Nat) (ht : P.underlying t = some (.slice e)) (hinfo : (P.info? e).map (fun i => (i.zero, i.size, i.bytes)) = some (some z, k, bytes)) (n : Nat) (hb : bytes * n ≤ 281474976710656) (h63 : n ≤ 9223372036854775807) (w : World) :
    (Instr.makeSlice t (.int .i64 (n : Int)) (.int .i64 (n : Int))).run P w = .ok (.slice (some ⟨w.heap.size, 0, none⟩) n n) (w.alloc (.cells (madeCells z.cells (n * k)) e)) := by
  obtain ⟨i, hi, hz0, hz1, hz2⟩ := info_parts hinfo
  have hb' : (i.bytes : Int) * (n : Int) ≤ 281474976710656 := by
    have h : ((i.bytes * n : Nat) : Int) ≤ 281474976710656 := by rw [hz2]; omega
    rwa [Int.natCast_mul] at h
  have hr := run_make (P := P) w t e i z ht hi hz0 .i64 .i64 n n (by omega) (Int.le_refl _) hb' (by omega)
  simp only [Int.toNat_natCast, hz1] at hr
  exact hr

set_option maxRecDepth 100000 in
set_option maxHeartbeats 2000000 in
theorem newFrame_any {w : World} {b : Nat} {m : PM} {vf vc vk : Value} (h : ImgAt w b m vf vc vk) {k : Nat} {f : PF} (hk : m.funcs[k]? = some f) (hs : 0 ≤ f.slots ∧ f.slots ≤ 100000) :
    Calls Tryd.prog 16 #[.pointer (some ⟨b, 0, none⟩), .int .i64 k] w fun e w' => Below w.heap.size w w' ∧ ∃ g, e = .returned (.pointer (some ⟨g, 0, none⟩)) := by
  obtain ⟨RF, ⟨gf, capf, rfl, nf, rf⟩, hRF⟩ := h.img.funcs
  have hl : k < m.funcs.length := (List.getElem?_eq_some_iff.1 hk).1
  obtain ⟨gb, go, rfl, hc⟩ := rf k hl
  have m0 := h.c0
  have c2 := hc 2 (by decide)
  rw [(hRF k f hk).2.2.1] at c2
  obtain ⟨n, hn⟩ : ∃ n : Nat, f.slots = (n : Int) := ⟨f.slots.toNat, by omega⟩
  rw [hn] at c2
  have hmk := make_rows (P := Tryd.prog) 103 119 _ 3 32 Tryd.underlying103 infoVal n (by omega) (by omega)
  have hk2 : (k : Int) < (m.funcs.length : Int) := by omega
  clear hc hRF h rf
  go_enter Tryd.func16, Tryd.ntmps16
  go_wp2_with fail
  go_ret
  exact ⟨((Below.refl _ _).alloc (Nat.le_refl _) _).alloc (by simp) _, _, rfl⟩
/-- Which numbers Collect may not have. -/
def collBad (x : Int) : Bool := decide (x < 0) || decide (2 < x)
theorem unknown_any (x : Int) (w : World) : Calls Tryd.prog 13 #[.int .i64 x] w fun e w' => e = .returned (.bool (collBad x)) ∧ w' = w := by
  by_cases h1 : x < 0
  · have hb : Hid (collBad x = true) := by show collBad x = true; simp [collBad, h1]
    go_enter Tryd.func13, Tryd.ntmps13
    go_wp2_with fail
    go_ret
    exact ⟨by rw [unhide hb]; rfl, rfl⟩
  · by_cases h2 : 2 < x
    · have hb : collBad x = true := by simp [collBad, h2]
      go_enter Tryd.func13, Tryd.ntmps13
      go_wp2_with fail
      go_ret
      exact ⟨rfl, rfl⟩
    · have hb : collBad x = false := by simp [collBad, h1, h2]
      go_enter Tryd.func13, Tryd.ntmps13
      go_wp2_with fail
      go_ret
      exact ⟨rfl, rfl⟩
theorem any_take {l : List Int} {k : Nat} (h : ∀ j, j < k → ∀ x, l[j]? = some x → collBad x = false) (hk : l.length ≤ k) : l.any collBad = false := by
  rw [List.any_eq_false]
  intro x hx
  obtain ⟨j, hj⟩ := List.getElem?_of_mem hx
  have hl := (List.getElem?_eq_some_iff.1 hj).1
  rw [h j (by omega) x hj]
  decide
theorem any_at {l : List Int} {k : Nat} {x : Int} (hx : l[k]? = some x) (hb : collBad x = true) : l.any collBad = true := by
  rw [List.any_eq_true]
  exact ⟨x, List.mem_of_getElem? hx, hb⟩

set_option maxRecDepth 100000 in
set_option maxHeartbeats 2000000 in
theorem index_any {w : World} {v : Value} {l : List Int} (h : IntsAt w v l) :
    Calls Tryd.prog 22 #[v, .func (.func 13) #[] #[]] w fun e w' => (∃ r : Int, e = .returned (.int .i64 r) ∧ Hid (decide (0 ≤ r) = l.any collBad)) ∧ w' = w := by
  obtain ⟨g, cap, rfl, hn, hr⟩ := h
  have HR := hide hr
  have hn2 : l.length ≤ 17592186044416 := by omega
  clear hr hn
  go_enter Tryd.func22, Tryd.ntmps22
  go_wp2_with fail
  go_loopg [8] l.length (fun gg i wr => ∃ k : Nat, k ≤ l.length ∧ gg = l.length - k ∧ i = .int .i64 k ∧ wr = w ∧ Hid (∀ j, j < k → ∀ x, l[j]? = some x → collBad x = false))
  case atStart => exact ⟨0, Nat.zero_le _, rfl, rfl, rfl, fun j hj => absurd hj (Nat.not_lt_zero j)⟩
  case round =>
    obtain ⟨k, hk, rfl, rfl, rfl, HA⟩ := hrel
    by_cases hlk : k < l.length
    · have hx : l[k]? = some (l[k]'hlk) := List.getElem?_eq_getElem _
      generalize (l[k]'hlk) = x at *
      obtain ⟨gb, go, rfl, hc⟩ := unhide HR k hlk
      have c0 : wr.cell? ⟨gb, go + k, none⟩ = some (.int .i64 x) := by
        have := hc 0 (by decide)
        rw [intRow, hx] at this
        simpa using this
      have HX := hide hx
      have hk2 : (k : Int) < (l.length : Int) := by omega
      clear hx hc
      go_wp2_with fail
      refine (unknown_any x _).mono ?_
      rintro e w1 ⟨rfl, rfl⟩
      cases hb : collBad x with
      | true =>
        go_wp2_with fail
        go_ret
        exact ⟨⟨k, rfl, by show decide ((0 : Int) ≤ (k : Int)) = l.any collBad; rw [any_at (unhide HX) hb]; exact decide_eq_true (by omega)⟩, rfl⟩
      | false =>
        go_wp2_with fail
        go_roundg (l.length - (k + 1))
        case measure => omega
        case rel => exact ⟨k + 1, by omega, rfl, by go_num, rfl, fun j hj y hy => by
          by_cases e : j = k
          · subst e
            rw [unhide HX] at hy
            cases hy
            exact hb
          · exact unhide HA j (by omega) y hy⟩
    · obtain rfl : k = l.length := by omega
      have hff : decide ((l.length : Int) < (l.length : Int)) = false := by simp
      go_wp2_with fail
      go_ret
      exact ⟨⟨-1, rfl, by rw [any_take (unhide HA) (Nat.le_refl _)]; rfl⟩, rfl⟩

set_option maxRecDepth 100000 in
set_option maxHeartbeats 2000000 in
theorem contains_any {w : World} {v : Value} {l : List Int} (h : IntsAt w v l) :
    Calls Tryd.prog 12 #[v, .func (.func 13) #[] #[]] w fun e w' => e = .returned (.bool (l.any collBad)) ∧ w' = w := by
  have H := hide h
  obtain ⟨g, cap, rfl, hn, hr⟩ := h
  clear hn hr
  go_enter Tryd.func12, Tryd.ntmps12
  go_wp2_with fail
  refine (index_any (unhide H)).mono ?_
  rintro e w1 ⟨⟨r, rfl, hr⟩, rfl⟩
  have HR := hr
  clear hr
  go_wp2_with fail
  go_ret
  exact ⟨by rw [← unhide HR]; rfl, rfl⟩
end Go.Proofs.YtcbgcjkcfolcoaaDoor

namespace Go.Proofs.YtcbgcjkcfolcoaaDoor
open Go.RowKit

/-- How many cells may not be. -/
def roomBad (n o : Int) : Bool := decide (n < 1) || decide (65536 < n) || decide (o < 1) || decide (1048576 < o)
def NewPostG (n o : Int) (w : World) (e : Ending) (w' : World) : Prop := Below w.heap.size w w' ∧
  ((roomBad n o = true ∧ e = .returned (.tuple #[.pointer none, .iface 38 (.int .i64 2)])) ∨
   (roomBad n o = false ∧ ∃ h mb, e = .returned (.tuple #[.pointer (some ⟨h, 0, none⟩), .nilIface]) ∧ w.heap.size ≤ h ∧ w.heap.size ≤ mb ∧ h ≠ mb ∧ w'.heap[mb]? = some (.map #[] 0) ∧
      w'.heap[h]? = some (.cells #[.int .i64 1, .slice none 0 0, .slice none 0 0, .int .i64 2, .slice none 0 0, .slice none 0 0, .int .i64 n, .int .i64 o, .slice none 0 0, .map (some mb), .int .i64 0, .int .i64 0, .int .i64 0] 108 (0, 0))))
theorem hnewAt (w : World) (o : Obj) {n : Nat} (hn : w.heap.size = n) : (w.alloc o).heap[n]? = some o := by
  rw [← hn]; exact hnew w o

set_option maxRecDepth 100000 in
set_option maxHeartbeats 2000000 in
theorem heapNew_any (n o : Int) (w : World) : Calls Tryd.prog 11 #[.int .i64 n, .int .i64 o] w fun e w' => NewPostG n o w e w' := by
  have mm : (Go.Instr.makeMap 106 none).run Tryd.prog w = .ok (.map (some w.heap.size)) (w.alloc (.map #[] 0)) := rfl
  by_cases h1 : n < 1
  · have HB : Hid (roomBad n o = true) := by simp [roomBad, h1, Hid]
    go_enter Tryd.func11, Tryd.ntmps11
    go_wp2_with fail
    go_ret2
    exact ⟨Below.refl _ _, Or.inl ⟨unhide HB, rfl⟩⟩
  by_cases h2 : 65536 < n
  · have HB : Hid (roomBad n o = true) := by simp [roomBad, h2, Hid]
    go_enter Tryd.func11, Tryd.ntmps11
    go_wp2_with fail
    go_ret2
    exact ⟨Below.refl _ _, Or.inl ⟨unhide HB, rfl⟩⟩
  by_cases h3 : o < 1
  · have HB : Hid (roomBad n o = true) := by simp [roomBad, h3, Hid]
    go_enter Tryd.func11, Tryd.ntmps11
    go_wp2_with fail
    go_ret2
    exact ⟨Below.refl _ _, Or.inl ⟨unhide HB, rfl⟩⟩
  by_cases h4 : 1048576 < o
  · have HB : Hid (roomBad n o = true) := by simp [roomBad, h4, Hid]
    go_enter Tryd.func11, Tryd.ntmps11
    go_wp2_with fail
    go_ret2
    exact ⟨Below.refl _ _, Or.inl ⟨unhide HB, rfl⟩⟩
  · have HB : Hid (roomBad n o = false) := by
      show roomBad n o = false
      unfold roomBad
      simp only [decide_eq_false h1, decide_eq_false h2, decide_eq_false h3, decide_eq_false h4, Bool.or_false]
    go_enter Tryd.func11, Tryd.ntmps11
    go_wp2_with fail
    go_ret2
    exact ⟨((Below.refl _ _).alloc (Nat.le_refl _) _).alloc (by simp) _, Or.inr ⟨unhide HB, _, w.heap.size, rfl, by simp, Nat.le_refl _, by simp, (Below.heap_alloc _ _ _ (by simp)).trans (hnew _ _), hnewAt _ _ (by simp)⟩⟩
end Go.Proofs.YtcbgcjkcfolcoaaDoor
