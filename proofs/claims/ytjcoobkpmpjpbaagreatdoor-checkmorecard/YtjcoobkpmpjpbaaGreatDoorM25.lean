/-
  A node of other kinds; a class.
  A node that is a call.
-/
import Derived.Test.YtjcoobkpmpjpbaaGreatDoorM24
namespace Go.Proofs.YtjcoobkpmpjpbaaGreatDoor
open Go.RowKit Go.Maps
set_option linter.unusedSimpArgs false
set_option linter.unusedVariables false

set_option maxRecDepth 100000 in
set_option maxHeartbeats 8000000 in
theorem node_other {M : Nat} {tp : Nat} {T : Tab} {vc vf : Value} {f : Nat} {cls : Option Nat} {fn : Bool} (IH : Hid (∀ (cls : Option Nat) (fn : Bool), ClsOk T.cs cls → NodeOk M tp T vc vf f cls fn)) (hcls : ClsOk T.cs cls) (hwc : ∀ c ∈ T.cs, Wf c) (hwf : ∀ g ∈ T.fns, ∃ p q, g.kids = p :: q) {w : World} {sp b N : Nat} {env : List (List ByteArray)} {bn : Nat} {t : Tree} (h : PlA M w tp sp b N T vc vf env) (hnd : NodeAt (fun k => k < M) w (.pointer (some ⟨bn, 0, none⟩)) t) (hlow : Lowt (f + 1) t) (hw : Wf t) (hn : ownN env + t.many ≤ 1000000) (h2 : t.kind ≠ 2) (h4 : t.kind ≠ 4) (h5 : t.kind ≠ 5) (h28 : t.kind ≠ 28) (h7 : t.kind ≠ 7) (h15 : t.kind ≠ 15) (h8 : t.kind ≠ 8) (h45 : t.kind ≠ 45) :
    Calls Tryz.prog 30 #[plV tp sp cls fn, .pointer (some ⟨bn, 0, none⟩)] w fun e w' => NdPost w sp b N t.many env (nodeP T (f + 1) cls fn env t) e w' := by
  have HR := hide (show (if itselfP T cls fn env t = false then none else allP (nodeP T f cls fn) env t.kids) = nodeP T (f + 1) cls fn env t by rw [nodeP]; simp [h2, h4, h5, h28, h7, h15, h8, h45])
  generalize nodeP T (f + 1) cls fn env t = R at HR ⊢
  obtain ⟨ks, hv⟩ := node_view hnd
  have HLT : Hid (bn < w.heap.size) := Nat.lt_of_lt_of_le hv.lt h.hM
  have HKL0 := hide hv.kids
  obtain ⟨kg, kcap, rfl, hkm, _⟩ := hv.kids
  have HMK := hide (many_kids t)
  have HBD := hide hn
  have HLOW := hide hlow
  have HW := hide hw
  have HCLS := hide hcls
  have H := hide h
  have HM := hide h.hM
  have hb1 := (Below.refl w.heap.size w).alloc (Nat.le_refl _) (.cells #[.pointer (some ⟨tp, 0, none⟩), .pointer (some ⟨sp, 0, none⟩), .int .i64 (clsV cls), .bool fn] 49)
  have HX1 := hide (hnew w (.cells #[.pointer (some ⟨tp, 0, none⟩), .pointer (some ⟨sp, 0, none⟩), .int .i64 (clsV cls), .bool fn] 49))
  have HP1 := hide (h.keep hb1)
  have HN1 := hide (node_keep hnd fun k hk => hb1.block k (Nat.lt_of_lt_of_le hk h.hM))
  have c0 := hcellB hb1 hv.c0
  have c1 := hcellB hb1 hv.c1
  have c5 := hcellB hb1 hv.c5
  obtain ⟨z0, z1, z2, z3⟩ := box_cells (unhide HX1)
  have HWC := hide hwc
  have HWF := hide hwf
  have HB1 := hide hb1
  have dd2 : ((t.kind : Int) == 2) = false := by simpa using fun q : (t.kind : Int) = 2 => h2 (by omega)
  have ff2 : ¬ ((t.kind : Int) = 2) := fun q => h2 (by omega)
  have dd4 : ((t.kind : Int) == 4) = false := by simpa using fun q : (t.kind : Int) = 4 => h4 (by omega)
  have ff4 : ¬ ((t.kind : Int) = 4) := fun q => h4 (by omega)
  have dd5 : ((t.kind : Int) == 5) = false := by simpa using fun q : (t.kind : Int) = 5 => h5 (by omega)
  have ff5 : ¬ ((t.kind : Int) = 5) := fun q => h5 (by omega)
  have dd28 : ((t.kind : Int) == 28) = false := by simpa using fun q : (t.kind : Int) = 28 => h28 (by omega)
  have ff28 : ¬ ((t.kind : Int) = 28) := fun q => h28 (by omega)
  have dd7 : ((t.kind : Int) == 7) = false := by simpa using fun q : (t.kind : Int) = 7 => h7 (by omega)
  have ff7 : ¬ ((t.kind : Int) = 7) := fun q => h7 (by omega)
  have dd15 : ((t.kind : Int) == 15) = false := by simpa using fun q : (t.kind : Int) = 15 => h15 (by omega)
  have ff15 : ¬ ((t.kind : Int) = 15) := fun q => h15 (by omega)
  have dd8 : ((t.kind : Int) == 8) = false := by simpa using fun q : (t.kind : Int) = 8 => h8 (by omega)
  have ff8 : ¬ ((t.kind : Int) = 8) := fun q => h8 (by omega)
  have dd45 : ((t.kind : Int) == 45) = false := by simpa using fun q : (t.kind : Int) = 45 => h45 (by omega)
  have ff45 : ¬ ((t.kind : Int) = 45) := fun q => h45 (by omega)
  unfold plV
  obtain ⟨cv, hcv⟩ : ∃ cv, clsV cls = cv := ⟨_, rfl⟩
  have HCV := hide hcv
  simp only [hcv] at z0 z1 z2 z3 c0 c1 c5 HX1 HP1 HN1 HB1 ⊢
  clear hcv h hnd hlow hw hn hcls hwc hwf hv hb1 hkm  h2 h4 h5 h28 h7 h15 h8 h45
  go_enter Tryz.func30, Tryz.ntmps30
  go_wp2_with fail
  generalize w.alloc (.cells #[.pointer (some ⟨tp, 0, none⟩), .pointer (some ⟨sp, 0, none⟩), .int .i64 cv, .bool fn] 49) = W at *
  have hc0 := itself_any (unhide HP1) (unhide HCLS) fn (unhide HN1) (unhide HW) (unhide HWC) (unhide HWF)
  unfold plV at hc0
  rw [unhide HCV] at hc0
  refine hc0.mono ?_
  clear hc0
  rintro e W2 ⟨hb2, hor⟩
  have y0 := hcellB hb2 z0
  have y1 := hcellB hb2 z1
  have y2 := hcellB hb2 z2
  have y3 := hcellB hb2 z3
  have d0 := hcellB hb2 c0
  have d1 := hcellB hb2 c1
  have d5 := hcellB hb2 c5
  have HX2 := hide ((hb2.block _ (cell_ltK z0)).trans (unhide HX1))
  have HB2 := hide ((unhide HB1).trans (hb2.mono (unhide HB1).size))
  have HP2 := hide ((unhide HP1).keep hb2)
  have HN2 := hide (node_keep (unhide HN1) fun k hk => hb2.block k (Nat.lt_of_lt_of_le hk (unhide HP1).hM))
  have HKL := hide ((unhide HKL0).keep fun k hk => (unhide HB2).block k (Nat.lt_of_lt_of_le hk (unhide HM)))
  clear hb2 z0 z1 z2 z3 c0 c1 c5 HX1 HB1 HP1 HN1 HKL0
  rcases hor with ⟨hi, rfl⟩ | ⟨hi, tt, pp, rfl⟩
  rotate_left
  · have HI := hide hi
    clear hi
    go_wp2_with fail
    go_ret
    exact ⟨grown_of_below (unhide HB2), env, scope_below (unhide H) (unhide HB2), Nat.le_add_right _ _, Or.inr ⟨by rw [← unhide HR, if_pos (unhide HI)], _, _, rfl⟩⟩
  have HR2 := hide ((if_neg (by rw [hi]; decide)).symm.trans (unhide HR))
  clear hi HR
  have entL : ∀ (w : World), Sem.run Tryz.prog (callFunc 15 #[.agg #[.pointer (some ⟨tp, 0, none⟩), .pointer (some ⟨sp, 0, none⟩), .int .i64 cv, .bool fn], .slice kg t.kids.length kcap]) w = .ok (.enter 15 #[.agg #[.pointer (some ⟨tp, 0, none⟩), .pointer (some ⟨sp, 0, none⟩), .int .i64 cv, .bool fn], .slice kg t.kids.length kcap]) w := fun _ => by kernel_rfl
  have HNM := hide (unhide HP2).scope.own
  go_wp2_with fail
  refine wp_region_held_drew (S := fun w' => w'.cell? ⟨w.heap.size, 0, none⟩ = some (.pointer (some ⟨tp, 0, none⟩)) ∧ w'.cell? ⟨w.heap.size, 1, none⟩ = some (.pointer (some ⟨sp, 0, none⟩)) ∧ w'.cell? ⟨w.heap.size, 2, none⟩ = some (.int .i64 cv) ∧ w'.cell? ⟨w.heap.size, 3, none⟩ = some (.bool fn) ∧ w'.cell? ⟨bn, 5, none⟩ = some (.slice kg t.kids.length kcap)) (by kernel_rfl) ⟨y0, y1, y2, y3, d5⟩ (fun hHeld => ?_)
  refine wpAnyH_take (i := 0) (oi := { dst := some 115, op := _, type := _, pos := _, after := _, guard := _ }) (v := ?_) rfl (by kernel_rfl) (by kernel_rfl) (by kernel_rfl) (fun _ _ _ h => h) (Or.inl ⟨by rfl, ?_⟩) (by assumption) ?_
  case refine_2 =>
    intro w hSw
    try dsimp only at hSw
    go_simp
    try with_reducible rfl
  simp only [Act.put, List.setIfInBounds_toArray, List.set_cons_zero, List.set_cons_succ]
  refine wpAnyH_take (i := 1) (oi := { dst := some 116, op := _, type := _, pos := _, after := _, guard := _ }) (v := ?_) rfl (by kernel_rfl) (by kernel_rfl) (by kernel_rfl) (fun _ _ _ h => h) (Or.inl ⟨by rfl, ?_⟩) (by assumption) ?_
  case refine_2 =>
    intro w hSw
    try dsimp only at hSw
    go_simp
    try with_reducible rfl
  simp only [Act.put, List.setIfInBounds_toArray, List.set_cons_zero, List.set_cons_succ]
  refine wpAnyH_take (i := 2) (oi := { dst := some 117, op := _, type := _, pos := _, after := _, guard := _ }) (v := ?_) rfl (by kernel_rfl) (by kernel_rfl) (by kernel_rfl) (fun _ _ _ h => h) (Or.inl ⟨by rfl, ?_⟩) (by assumption) ?_
  case refine_2 =>
    intro w hSw
    try dsimp only at hSw
    go_simp
    try with_reducible rfl
  simp only [Act.put, List.setIfInBounds_toArray, List.set_cons_zero, List.set_cons_succ]
  refine wpAnyH_take (i := 3) (oi := { dst := some 118, op := _, type := _, pos := _, after := _, guard := _ }) (v := ?_) rfl (by kernel_rfl) (by kernel_rfl) (by kernel_rfl) (fun _ _ _ h => h) (Or.inl ⟨by rfl, ?_⟩) (by assumption) ?_
  case refine_2 =>
    intro w hSw
    try dsimp only at hSw
    go_simp
    try with_reducible rfl
  simp only [Act.put, List.setIfInBounds_toArray, List.set_cons_zero, List.set_cons_succ]
  refine wpAnyH_take (i := 4) (oi := { dst := some 119, op := _, type := _, pos := _, after := _, guard := _ }) (v := ?_) rfl (by kernel_rfl) (by kernel_rfl) (by kernel_rfl) (fun _ _ _ h => h) (Or.inl ⟨by rfl, ?_⟩) (by assumption) ?_
  case refine_2 =>
    intro w hSw
    try dsimp only at hSw
    go_simp
    try with_reducible rfl
  simp only [Act.put, List.setIfInBounds_toArray, List.set_cons_zero, List.set_cons_succ]
  have hc0 := all_any (hide (unhide IH cls fn (unhide HCLS))) (w := W2.drew) (unhide HP2).drew ((unhide HKL).keep fun _ _ => rfl) (low_kids (unhide HLOW) (unhide HW)) (by have := unhide HBD; have := unhide HMK; omega)
  unfold plV at hc0
  rw [unhide HCV] at hc0
  refine wpAnyH_ready (rs := [5]) (by kernel_rfl) (by simp) ?_
  refine AllReadyH.cons (o := { dst := some 120, op := _, type := _, pos := _, after := _, guard := _ }) rfl (fun K hK => ?_) AllReadyH.nil
  refine step_enterG (by kernel_rfl) (by simp [Act.eval, entL, go_sem]) (hc0.mono ?_)
  rintro e W3 ⟨hg3, env3, hs3, hle3, hor⟩
  have hg3' : W2.grownBy W3 (some b) := ⟨hg3.os, hg3.tape, hg3.output, hg3.size, hg3.block⟩
  have qy0 := cell_grown (unhide HNM) hg3' y0
  have qy1 := cell_grown (unhide HNM) hg3' y1
  have qy2 := cell_grown (unhide HNM) hg3' y2
  have qy3 := cell_grown (unhide HNM) hg3' y3
  have qd5 := cell_grown (unhide HNM) hg3' d5
  have HG3 := hide ((grown_of_below (unhide HB2)).trans hg3')
  have HS3 := hide hs3
  have HLE3 := hide hle3
  clear hg3 hg3' hs3 hle3 hc0 y0 y1 y2 y3 d5
  rcases hor with ⟨hr, rfl⟩ | ⟨hr, tt, pp, rfl⟩
  · have HR3 := hide hr
    clear hr
    refine hK.out _ _ ⟨qy0, qy1, qy2, qy3, qd5⟩ (fun hHeldC => ?_)
    clear hK K
    simp only [Act.put, List.setIfInBounds_toArray, List.set_cons_zero, List.set_cons_succ]
    refine wpAnyH_take (i := 6) (oi := { dst := some 4, op := _, type := _, pos := _, after := _, guard := _ }) (v := ?_) rfl (by kernel_rfl) (by kernel_rfl) (by kernel_rfl) (fun _ _ _ h => h) (Or.inl ⟨by rfl, ?_⟩) (by assumption) ?_
    case refine_2 =>
      intro w hSw
      try dsimp only at hSw
      go_simp
      try with_reducible rfl
    simp only [Act.put, List.setIfInBounds_toArray, List.set_cons_zero, List.set_cons_succ]
    refine wpAnyH_done (by kernel_rfl) ?_ _
    clear hHeld hHeldC
    go_wp2_with fail
    go_ret
    exact ⟨unhide HG3, env3, unhide HS3, by have := unhide HLE3; have := unhide HMK; omega, Or.inl ⟨(unhide HR2).symm.trans (unhide HR3), rfl⟩⟩
  · have HR3 := hide hr
    clear hr
    refine hK.out _ _ ⟨qy0, qy1, qy2, qy3, qd5⟩ (fun hHeldC => ?_)
    clear hK K
    simp only [Act.put, List.setIfInBounds_toArray, List.set_cons_zero, List.set_cons_succ]
    refine wpAnyH_take (i := 6) (oi := { dst := some 4, op := _, type := _, pos := _, after := _, guard := _ }) (v := ?_) rfl (by kernel_rfl) (by kernel_rfl) (by kernel_rfl) (fun _ _ _ h => h) (Or.inl ⟨by rfl, ?_⟩) (by assumption) ?_
    case refine_2 =>
      intro w hSw
      try dsimp only at hSw
      go_simp
      try with_reducible rfl
    simp only [Act.put, List.setIfInBounds_toArray, List.set_cons_zero, List.set_cons_succ]
    refine wpAnyH_done (by kernel_rfl) ?_ _
    clear hHeld hHeldC
    go_wp2_with fail
    go_ret
    exact ⟨unhide HG3, env3, unhide HS3, by have := unhide HLE3; have := unhide HMK; omega, Or.inr ⟨(unhide HR2).symm.trans (unhide HR3), _, _, rfl⟩⟩

set_option maxRecDepth 100000 in
set_option maxHeartbeats 8000000 in
theorem node_class {M : Nat} {tp : Nat} {T : Tab} {vc vf : Value} {f : Nat} {cls : Option Nat} {fn : Bool} (IH : Hid (∀ (cls : Option Nat) (fn : Bool), ClsOk T.cs cls → NodeOk M tp T vc vf f cls fn)) (hcls : ClsOk T.cs cls) (hwc : ∀ c ∈ T.cs, Wf c) (hwf : ∀ g ∈ T.fns, ∃ p q, g.kids = p :: q) {w : World} {sp b N : Nat} {env : List (List ByteArray)} {bn : Nat} {t : Tree} (h : PlA M w tp sp b N T vc vf env) (hnd : NodeAt (fun k => k < M) w (.pointer (some ⟨bn, 0, none⟩)) t) (hlow : Lowt (f + 1) t) (hw : Wf t) (hn : ownN env + t.many ≤ 1000000) (hk : t.kind = 2) :
    Calls Tryz.prog 30 #[plV tp sp cls fn, .pointer (some ⟨bn, 0, none⟩)] w fun e w' => NdPost w sp b N t.many env (nodeP T (f + 1) cls fn env t) e w' := by
  have HR := hide (show (if itselfP T cls fn env t = false then none else allP (nodeP T f (firstOf T.cs t.text) fn) env t.kids) = nodeP T (f + 1) cls fn env t by rw [nodeP]; simp [hk])
  generalize nodeP T (f + 1) cls fn env t = R at HR ⊢
  obtain ⟨ks, hv⟩ := node_view hnd
  have HLT : Hid (bn < w.heap.size) := Nat.lt_of_lt_of_le hv.lt h.hM
  have HKL0 := hide hv.kids
  obtain ⟨kg, kcap, rfl, hkm, _⟩ := hv.kids
  have HMK := hide (many_kids t)
  have HBD := hide hn
  have HLOW := hide hlow
  have HW := hide hw
  have HCLS := hide hcls
  have H := hide h
  have HM := hide h.hM
  have hb1 := (Below.refl w.heap.size w).alloc (Nat.le_refl _) (.cells #[.pointer (some ⟨tp, 0, none⟩), .pointer (some ⟨sp, 0, none⟩), .int .i64 (clsV cls), .bool fn] 49)
  have HX1 := hide (hnew w (.cells #[.pointer (some ⟨tp, 0, none⟩), .pointer (some ⟨sp, 0, none⟩), .int .i64 (clsV cls), .bool fn] 49))
  have HP1 := hide (h.keep hb1)
  have HN1 := hide (node_keep hnd fun k hk => hb1.block k (Nat.lt_of_lt_of_le hk h.hM))
  have c0 := hcellB hb1 hv.c0
  have c1 := hcellB hb1 hv.c1
  have c5 := hcellB hb1 hv.c5
  obtain ⟨z0, z1, z2, z3⟩ := box_cells (unhide HX1)
  have HWC := hide hwc
  have HWF := hide hwf
  have HB1 := hide hb1
  rw [hk] at c0
  unfold plV
  obtain ⟨cv, hcv⟩ : ∃ cv, clsV cls = cv := ⟨_, rfl⟩
  have HCV := hide hcv
  simp only [hcv] at z0 z1 z2 z3 c0 c1 c5 HX1 HP1 HN1 HB1 ⊢
  clear hcv h hnd hlow hw hn hcls hwc hwf hv hb1 hkm hk 
  go_enter Tryz.func30, Tryz.ntmps30
  go_wp2_with fail
  generalize w.alloc (.cells #[.pointer (some ⟨tp, 0, none⟩), .pointer (some ⟨sp, 0, none⟩), .int .i64 cv, .bool fn] 49) = W at *
  have hc0 := itself_any (unhide HP1) (unhide HCLS) fn (unhide HN1) (unhide HW) (unhide HWC) (unhide HWF)
  unfold plV at hc0
  rw [unhide HCV] at hc0
  refine hc0.mono ?_
  clear hc0
  rintro e W2 ⟨hb2, hor⟩
  have y0 := hcellB hb2 z0
  have y1 := hcellB hb2 z1
  have y2 := hcellB hb2 z2
  have y3 := hcellB hb2 z3
  have d0 := hcellB hb2 c0
  have d1 := hcellB hb2 c1
  have d5 := hcellB hb2 c5
  have HX2 := hide ((hb2.block _ (cell_ltK z0)).trans (unhide HX1))
  have HB2 := hide ((unhide HB1).trans (hb2.mono (unhide HB1).size))
  have HP2 := hide ((unhide HP1).keep hb2)
  have HN2 := hide (node_keep (unhide HN1) fun k hk => hb2.block k (Nat.lt_of_lt_of_le hk (unhide HP1).hM))
  have HKL := hide ((unhide HKL0).keep fun k hk => (unhide HB2).block k (Nat.lt_of_lt_of_le hk (unhide HM)))
  clear hb2 z0 z1 z2 z3 c0 c1 c5 HX1 HB1 HP1 HN1 HKL0
  rcases hor with ⟨hi, rfl⟩ | ⟨hi, tt, pp, rfl⟩
  rotate_left
  · have HI := hide hi
    clear hi
    go_wp2_with fail
    go_ret
    exact ⟨grown_of_below (unhide HB2), env, scope_below (unhide H) (unhide HB2), Nat.le_add_right _ _, Or.inr ⟨by rw [← unhide HR, if_pos (unhide HI)], _, _, rfl⟩⟩
  have HR2 := hide ((if_neg (by rw [hi]; decide)).symm.trans (unhide HR))
  clear hi HR
  have entC : ∀ w : World, Sem.run Tryz.prog (callFunc 8 #[.pointer (some ⟨tp, 0, none⟩), .string t.text]) w = .ok (.enter 8 #[.pointer (some ⟨tp, 0, none⟩), .string t.text]) w := fun _ => by kernel_rfl
  obtain ⟨cw, hcw⟩ : ∃ cw, clsV (firstOf T.cs t.text) = cw := ⟨_, rfl⟩
  have HCW := hide hcw
  clear hcw
  have entL : ∀ (w : World), Sem.run Tryz.prog (callFunc 15 #[.agg #[.pointer (some ⟨tp, 0, none⟩), .pointer (some ⟨sp, 0, none⟩), .int .i64 cw, .bool fn], .slice kg t.kids.length kcap]) w = .ok (.enter 15 #[.agg #[.pointer (some ⟨tp, 0, none⟩), .pointer (some ⟨sp, 0, none⟩), .int .i64 cw, .bool fn], .slice kg t.kids.length kcap]) w := fun _ => by kernel_rfl
  go_wp2_with fail
  refine wp_region_held_drew (S := fun w' => w'.cell? ⟨w.heap.size, 0, none⟩ = some (.pointer (some ⟨tp, 0, none⟩)) ∧ w'.cell? ⟨bn, 1, none⟩ = some (.string t.text)) (by kernel_rfl) ⟨y0, d1⟩ (fun hHeld => ?_)
  refine wpAnyH_take (i := 0) (oi := { dst := some 19, op := _, type := _, pos := _, after := _, guard := _ }) (v := ?_) rfl (by kernel_rfl) (by kernel_rfl) (by kernel_rfl) (fun _ _ _ h => h) (Or.inl ⟨by rfl, ?_⟩) (by assumption) ?_
  case refine_2 =>
    intro w hSw
    try dsimp only at hSw
    go_simp
    try with_reducible rfl
  simp only [Act.put, List.setIfInBounds_toArray, List.set_cons_zero, List.set_cons_succ]
  refine wpAnyH_take (i := 1) (oi := { dst := some 20, op := _, type := _, pos := _, after := _, guard := _ }) (v := ?_) rfl (by kernel_rfl) (by kernel_rfl) (by kernel_rfl) (fun _ _ _ h => h) (Or.inl ⟨by rfl, ?_⟩) (by assumption) ?_
  case refine_2 =>
    intro w hSw
    try dsimp only at hSw
    go_simp
    try with_reducible rfl
  simp only [Act.put, List.setIfInBounds_toArray, List.set_cons_zero, List.set_cons_succ]
  refine wpAnyH_take (i := 2) (oi := { dst := some 21, op := _, type := _, pos := _, after := _, guard := _ }) (v := ?_) rfl (by kernel_rfl) (by kernel_rfl) (by kernel_rfl) (fun _ _ _ h => h) (Or.inl ⟨by rfl, ?_⟩) (by assumption) ?_
  case refine_2 =>
    intro w hSw
    try dsimp only at hSw
    go_simp
    try with_reducible rfl
  simp only [Act.put, List.setIfInBounds_toArray, List.set_cons_zero, List.set_cons_succ]
  refine wpAnyH_take (i := 3) (oi := { dst := some 22, op := _, type := _, pos := _, after := _, guard := _ }) (v := ?_) rfl (by kernel_rfl) (by kernel_rfl) (by kernel_rfl) (fun _ _ _ h => h) (Or.inl ⟨by rfl, ?_⟩) (by assumption) ?_
  case refine_2 =>
    intro w hSw
    try dsimp only at hSw
    go_simp
    try with_reducible rfl
  simp only [Act.put, List.setIfInBounds_toArray, List.set_cons_zero, List.set_cons_succ]
  refine wpAnyH_take (i := 4) (oi := { dst := some 23, op := _, type := _, pos := _, after := _, guard := _ }) (v := ?_) rfl (by kernel_rfl) (by kernel_rfl) (by kernel_rfl) (fun _ _ _ h => h) (Or.inl ⟨by rfl, ?_⟩) (by assumption) ?_
  case refine_2 =>
    intro w hSw
    try dsimp only at hSw
    go_simp
    try with_reducible rfl
  simp only [Act.put, List.setIfInBounds_toArray, List.set_cons_zero, List.set_cons_succ]
  refine wpAnyH_take (i := 5) (oi := { dst := some 24, op := _, type := _, pos := _, after := _, guard := _ }) (v := ?_) rfl (by kernel_rfl) (by kernel_rfl) (by kernel_rfl) (fun _ _ _ h => h) (Or.inl ⟨by rfl, ?_⟩) (by assumption) ?_
  case refine_2 =>
    intro w hSw
    try dsimp only at hSw
    go_simp
    try with_reducible rfl
  simp only [Act.put, List.setIfInBounds_toArray, List.set_cons_zero, List.set_cons_succ]
  have hc0 := tabClass_any ((unhide HP2).tab.keep fun k hk => rfl) (w := W2.drew) (unhide HP2).hM t.text
  rw [unhide HCW] at hc0
  refine wpAnyH_ready (rs := [6]) (by kernel_rfl) (by simp) ?_
  refine AllReadyH.cons (o := { dst := some 25, op := _, type := _, pos := _, after := _, guard := _ }) rfl (fun K hK => ?_) AllReadyH.nil
  refine step_enterG (by kernel_rfl) (by simp [Act.eval, entC, go_sem]) (hc0.mono ?_)
  rintro e W3 ⟨rfl, hb3⟩
  have hb3' : Below W2.heap.size W2 W3 := ⟨hb3.os, hb3.tape, hb3.output, hb3.size, hb3.block⟩
  have x0 := hcellB hb3' y0
  have x1 := hcellB hb3' y1
  have x2 := hcellB hb3' y2
  have x3 := hcellB hb3' y3
  have g1 := hcellB hb3' d1
  have g5 := hcellB hb3' d5
  have HX3 := hide ((hb3'.block _ (cell_ltK y0)).trans (unhide HX2))
  have HB3 := hide ((unhide HB2).trans (hb3'.mono (unhide HB2).size))
  have HP3 := hide ((unhide HP2).keep hb3')
  have HKL3 := hide ((unhide HKL).keep fun k hk => hb3'.block k (Nat.lt_of_lt_of_le hk (unhide HP2).hM))
  have fz := hfroz (unhide HX3) 2
  clear hb3 hb3' hc0 y0 y1 y2 y3 d0 d1 d5
  refine hK.out _ _ ⟨x0, g1⟩ (fun hHeld6 => ?_)
  clear hK K
  simp only [Act.put, List.setIfInBounds_toArray, List.set_cons_zero, List.set_cons_succ]
  refine wpAnyH_take (i := 7) (oi := { dst := some 26, op := _, type := _, pos := _, after := _, guard := _ }) (v := ?_) rfl (by kernel_rfl) (by kernel_rfl) (by kernel_rfl) (fun _ _ _ h => h) (Or.inl ⟨by rfl, ?_⟩) (by assumption) ?_
  case refine_2 =>
    intro w hSw
    try dsimp only at hSw
    go_simp
    try with_reducible rfl
  simp only [Act.put, List.setIfInBounds_toArray, List.set_cons_zero, List.set_cons_succ]
  refine wpAnyH_ready (rs := [8]) (by kernel_rfl) (by simp) ?_
  refine AllReadyH.cons (o := { dst := none, op := _, type := _, pos := _, after := _, guard := _ }) rfl (fun K hK => ?_) AllReadyH.nil
  go_simp
  refine hK.out _ _ ⟨hcell (hset (unhide HX3) (i := 2) (.int .i64 cw)) 0, cell_other g1 (Nat.ne_of_lt (unhide HLT)) _⟩ (fun hHeld8 => ?_)
  clear hK K
  refine wpAnyH_done (by kernel_rfl) ?_ _
  clear hHeld hHeld6 hHeld8 x0 x1 x2 x3 g1 fz
  have HX4 := hide (hset (unhide HX3) (i := 2) (.int .i64 cw))
  have HX4' : Hid ((W3.setCell ⟨w.heap.size, 2, none⟩ (.int .i64 cw)).heap[w.heap.size]? = some (.cells #[.pointer (some ⟨tp, 0, none⟩), .pointer (some ⟨sp, 0, none⟩), .int .i64 cw, .bool fn] 49 (0, 0))) := unhide HX4
  obtain ⟨y0, y1, y2, y3⟩ := box_cells (unhide HX4')
  have d5 := cell_other (s := w.heap.size) (i := 2) g5 (Nat.ne_of_lt (unhide HLT)) (.int .i64 cw)
  have HP4 := hide ((unhide HP3).set (s := w.heap.size) (i := 2) (unhide HM) ⟨_, _, unhide HX3⟩ (.int .i64 cw))
  have HKL4 := hide (list_set (unhide HKL3) (s := w.heap.size) (i := 2) (unhide HM) (.int .i64 cw))
  have HG4 := hide (grown_set (b := b) (grown_of_below (unhide HB3)) (s := w.heap.size) (i := 2) (Nat.le_refl _) (.int .i64 cw))
  have HNM := hide (unhide HP4).scope.own
  clear HX4 g5
  generalize W3.setCell ⟨w.heap.size, 2, none⟩ (.int .i64 cw) = W4 at *
  go_wp2_with fail
  refine wp_region_held_drew (S := fun w' => w'.cell? ⟨w.heap.size, 0, none⟩ = some (.pointer (some ⟨tp, 0, none⟩)) ∧ w'.cell? ⟨w.heap.size, 1, none⟩ = some (.pointer (some ⟨sp, 0, none⟩)) ∧ w'.cell? ⟨w.heap.size, 2, none⟩ = some (.int .i64 cw) ∧ w'.cell? ⟨w.heap.size, 3, none⟩ = some (.bool fn) ∧ w'.cell? ⟨bn, 5, none⟩ = some (.slice kg t.kids.length kcap)) (by kernel_rfl) ⟨y0, y1, y2, y3, d5⟩ (fun hHeld => ?_)
  refine wpAnyH_take (i := 0) (oi := { dst := some 27, op := _, type := _, pos := _, after := _, guard := _ }) (v := ?_) rfl (by kernel_rfl) (by kernel_rfl) (by kernel_rfl) (fun _ _ _ h => h) (Or.inl ⟨by rfl, ?_⟩) (by assumption) ?_
  case refine_2 =>
    intro w hSw
    try dsimp only at hSw
    go_simp
    try with_reducible rfl
  simp only [Act.put, List.setIfInBounds_toArray, List.set_cons_zero, List.set_cons_succ]
  refine wpAnyH_take (i := 1) (oi := { dst := some 28, op := _, type := _, pos := _, after := _, guard := _ }) (v := ?_) rfl (by kernel_rfl) (by kernel_rfl) (by kernel_rfl) (fun _ _ _ h => h) (Or.inl ⟨by rfl, ?_⟩) (by assumption) ?_
  case refine_2 =>
    intro w hSw
    try dsimp only at hSw
    go_simp
    try with_reducible rfl
  simp only [Act.put, List.setIfInBounds_toArray, List.set_cons_zero, List.set_cons_succ]
  refine wpAnyH_take (i := 2) (oi := { dst := some 29, op := _, type := _, pos := _, after := _, guard := _ }) (v := ?_) rfl (by kernel_rfl) (by kernel_rfl) (by kernel_rfl) (fun _ _ _ h => h) (Or.inl ⟨by rfl, ?_⟩) (by assumption) ?_
  case refine_2 =>
    intro w hSw
    try dsimp only at hSw
    go_simp
    try with_reducible rfl
  simp only [Act.put, List.setIfInBounds_toArray, List.set_cons_zero, List.set_cons_succ]
  refine wpAnyH_take (i := 3) (oi := { dst := some 30, op := _, type := _, pos := _, after := _, guard := _ }) (v := ?_) rfl (by kernel_rfl) (by kernel_rfl) (by kernel_rfl) (fun _ _ _ h => h) (Or.inl ⟨by rfl, ?_⟩) (by assumption) ?_
  case refine_2 =>
    intro w hSw
    try dsimp only at hSw
    go_simp
    try with_reducible rfl
  simp only [Act.put, List.setIfInBounds_toArray, List.set_cons_zero, List.set_cons_succ]
  refine wpAnyH_take (i := 4) (oi := { dst := some 31, op := _, type := _, pos := _, after := _, guard := _ }) (v := ?_) rfl (by kernel_rfl) (by kernel_rfl) (by kernel_rfl) (fun _ _ _ h => h) (Or.inl ⟨by rfl, ?_⟩) (by assumption) ?_
  case refine_2 =>
    intro w hSw
    try dsimp only at hSw
    go_simp
    try with_reducible rfl
  simp only [Act.put, List.setIfInBounds_toArray, List.set_cons_zero, List.set_cons_succ]
  have hc0 := all_any (hide (unhide IH (firstOf T.cs t.text) fn (first_cls T.cs t.text))) (w := W4.drew) (unhide HP4).drew ((unhide HKL4).keep fun _ _ => rfl) (low_kids (unhide HLOW) (unhide HW)) (by have := unhide HBD; have := unhide HMK; omega)
  unfold plV at hc0
  rw [unhide HCW] at hc0
  refine wpAnyH_ready (rs := [5]) (by kernel_rfl) (by simp) ?_
  refine AllReadyH.cons (o := { dst := some 32, op := _, type := _, pos := _, after := _, guard := _ }) rfl (fun K hK => ?_) AllReadyH.nil
  refine step_enterG (by kernel_rfl) (by simp [Act.eval, entL, go_sem]) (hc0.mono ?_)
  rintro e W3 ⟨hg3, env3, hs3, hle3, hor⟩
  have hg3' : W4.grownBy W3 (some b) := ⟨hg3.os, hg3.tape, hg3.output, hg3.size, hg3.block⟩
  have qy0 := cell_grown (unhide HNM) hg3' y0
  have qy1 := cell_grown (unhide HNM) hg3' y1
  have qy2 := cell_grown (unhide HNM) hg3' y2
  have qy3 := cell_grown (unhide HNM) hg3' y3
  have qd5 := cell_grown (unhide HNM) hg3' d5
  have HG3 := hide ((unhide HG4).trans hg3')
  have HS3 := hide hs3
  have HLE3 := hide hle3
  clear hg3 hg3' hs3 hle3 hc0 y0 y1 y2 y3 d5
  rcases hor with ⟨hr, rfl⟩ | ⟨hr, tt, pp, rfl⟩
  · have HR3 := hide hr
    clear hr
    refine hK.out _ _ ⟨qy0, qy1, qy2, qy3, qd5⟩ (fun hHeldC => ?_)
    clear hK K
    simp only [Act.put, List.setIfInBounds_toArray, List.set_cons_zero, List.set_cons_succ]
    refine wpAnyH_take (i := 6) (oi := { dst := some 4, op := _, type := _, pos := _, after := _, guard := _ }) (v := ?_) rfl (by kernel_rfl) (by kernel_rfl) (by kernel_rfl) (fun _ _ _ h => h) (Or.inl ⟨by rfl, ?_⟩) (by assumption) ?_
    case refine_2 =>
      intro w hSw
      try dsimp only at hSw
      go_simp
      try with_reducible rfl
    simp only [Act.put, List.setIfInBounds_toArray, List.set_cons_zero, List.set_cons_succ]
    refine wpAnyH_done (by kernel_rfl) ?_ _
    clear hHeld hHeldC
    go_wp2_with fail
    go_ret
    exact ⟨unhide HG3, env3, unhide HS3, by have := unhide HLE3; have := unhide HMK; omega, Or.inl ⟨(unhide HR2).symm.trans (unhide HR3), rfl⟩⟩
  · have HR3 := hide hr
    clear hr
    refine hK.out _ _ ⟨qy0, qy1, qy2, qy3, qd5⟩ (fun hHeldC => ?_)
    clear hK K
    simp only [Act.put, List.setIfInBounds_toArray, List.set_cons_zero, List.set_cons_succ]
    refine wpAnyH_take (i := 6) (oi := { dst := some 4, op := _, type := _, pos := _, after := _, guard := _ }) (v := ?_) rfl (by kernel_rfl) (by kernel_rfl) (by kernel_rfl) (fun _ _ _ h => h) (Or.inl ⟨by rfl, ?_⟩) (by assumption) ?_
    case refine_2 =>
      intro w hSw
      try dsimp only at hSw
      go_simp
      try with_reducible rfl
    simp only [Act.put, List.setIfInBounds_toArray, List.set_cons_zero, List.set_cons_succ]
    refine wpAnyH_done (by kernel_rfl) ?_ _
    clear hHeld hHeldC
    go_wp2_with fail
    go_ret
    exact ⟨unhide HG3, env3, unhide HS3, by have := unhide HLE3; have := unhide HMK; omega, Or.inr ⟨(unhide HR2).symm.trans (unhide HR3), _, _, rfl⟩⟩
end Go.Proofs.YtjcoobkpmpjpbaaGreatDoor

namespace Go.Proofs.YtjcoobkpmpjpbaaGreatDoor
open Go.RowKit Go.Maps
set_option linter.unusedSimpArgs false
set_option linter.unusedVariables false

theorem list_tail {M : Nat} {w : World} {kg cap : Nat} {c : Tree} {r : List Tree} (h : ListAt M w (.slice (some ⟨kg, 0, none⟩) (r.length + 1) cap) (c :: r)) (hc : r.length + 1 ≤ cap) : ListO M w (.slice (if cap = 1 then some (⟨kg, 0, none⟩ : Addr) else some ⟨kg, 1, none⟩) r.length (cap - 1)) r := by
  obtain ⟨g, cap', e, hm, hat⟩ := h
  cases e
  refine ⟨_, _, rfl, by simp only [List.length_cons] at hm; omega, fun i t ht => ?_⟩
  have hl := (List.getElem?_eq_some_iff.1 ht).1
  obtain ⟨a, b, e, ha, hcl, hn⟩ := hat (i + 1) t (by rw [List.getElem?_cons_succ]; exact ht)
  cases e
  refine ⟨kg, 1, b, by rw [if_neg (by omega)], ha, ?_, hn⟩
  rw [Nat.add_comm 1 i]
  exact hcl
set_option maxRecDepth 100000 in
set_option maxHeartbeats 8000000 in
theorem node_call {M : Nat} {tp : Nat} {T : Tab} {vc vf : Value} {f : Nat} {cls : Option Nat} {fn : Bool} (IH : Hid (∀ (cls : Option Nat) (fn : Bool), ClsOk T.cs cls → NodeOk M tp T vc vf f cls fn)) (hcls : ClsOk T.cs cls) (hwc : ∀ c ∈ T.cs, Wf c) (hwf : ∀ g ∈ T.fns, ∃ p q, g.kids = p :: q) {w : World} {sp b N : Nat} {env : List (List ByteArray)} {bn : Nat} {t : Tree} (h : PlA M w tp sp b N T vc vf env) (hnd : NodeAt (fun k => k < M) w (.pointer (some ⟨bn, 0, none⟩)) t) (hlow : Lowt (f + 1) t) (hw : Wf t) (hn : ownN env + t.many ≤ 1000000) (hk : t.kind = 45) :
    Calls Tryz.prog 30 #[plV tp sp cls fn, .pointer (some ⟨bn, 0, none⟩)] w fun e w' => NdPost w sp b N t.many env (nodeP T (f + 1) cls fn env t) e w' := by
  cases hks : t.kids with
  | nil => exact absurd hks (hw.here.1.2.2 hk)
  | cons c r =>
    have HR := hide (show (if itselfP T cls fn env t = false then none else allP (nodeP T f cls fn) env (if callsFnP env t then t.kids.tail else t.kids)) = nodeP T (f + 1) cls fn env t by rw [nodeP]; simp [hk])
    generalize nodeP T (f + 1) cls fn env t = R at HR ⊢
    obtain ⟨ks, hv⟩ := node_view hnd
    have HLT : Hid (bn < w.heap.size) := Nat.lt_of_lt_of_le hv.lt h.hM
    have HKL0 := hide hv.kids
    obtain ⟨kg, kcap, b1, k5, k0, hnc, lb, lg, lb1, hm1, hm2⟩ := kid0 hnd hks
    have HC1 := hide (hw.kid (k := c) (by rw [hks]; exact List.mem_cons_self ..)).here.2.1
    have e5 := hv.c5
    rw [k5] at e5
    cases e5
    have HKS := hide hks
    have HLG := hide (Nat.lt_of_lt_of_le lg h.hM)
    obtain ⟨L, hL⟩ : ∃ L, r.length = L := ⟨_, rfl⟩
    have HL := hide hL
    have HMK := hide (many_kids t)
    have HBD := hide hn
    have HLOW := hide hlow
    have HW := hide hw
    have HCLS := hide hcls
    have H := hide h
    have HM := hide h.hM
    have hb1 := (Below.refl w.heap.size w).alloc (Nat.le_refl _) (.cells #[.pointer (some ⟨tp, 0, none⟩), .pointer (some ⟨sp, 0, none⟩), .int .i64 (clsV cls), .bool fn] 49)
    have HX1 := hide (hnew w (.cells #[.pointer (some ⟨tp, 0, none⟩), .pointer (some ⟨sp, 0, none⟩), .int .i64 (clsV cls), .bool fn] 49))
    have HP1 := hide (h.keep hb1)
    have HN1 := hide (node_keep hnd fun k hk => hb1.block k (Nat.lt_of_lt_of_le hk h.hM))
    have c0 := hcellB hb1 hv.c0
    have c1 := hcellB hb1 hv.c1
    have c5 := hcellB hb1 hv.c5
    rw [hL] at c5 hm1 hm2
    unfold maxLen at hm1
    have n1 : (1 : Int) ≤ (L : Int) + 1 := by omega
    obtain ⟨z0, z1, z2, z3⟩ := box_cells (unhide HX1)
    have HWC := hide hwc
    have HWF := hide hwf
    have HB1 := hide hb1
    rw [hk] at c0
    unfold plV
    obtain ⟨cv, hcv⟩ : ∃ cv, clsV cls = cv := ⟨_, rfl⟩
    have HCV := hide hcv
    simp only [hcv] at z0 z1 z2 z3 c0 c1 c5 HX1 HP1 HN1 HB1 ⊢
    clear hcv h hnd hlow hw hn hcls hwc hwf hv hb1 hk hks hnc k5 k0 lb lg lb1 hL 
    go_enter Tryz.func30, Tryz.ntmps30
    go_wp2_with fail
    generalize w.alloc (.cells #[.pointer (some ⟨tp, 0, none⟩), .pointer (some ⟨sp, 0, none⟩), .int .i64 cv, .bool fn] 49) = W at *
    have hc0 := itself_any (unhide HP1) (unhide HCLS) fn (unhide HN1) (unhide HW) (unhide HWC) (unhide HWF)
    unfold plV at hc0
    rw [unhide HCV] at hc0
    refine hc0.mono ?_
    clear hc0
    rintro e W2 ⟨hb2, hor⟩
    have y0 := hcellB hb2 z0
    have y1 := hcellB hb2 z1
    have y2 := hcellB hb2 z2
    have y3 := hcellB hb2 z3
    have d0 := hcellB hb2 c0
    have d1 := hcellB hb2 c1
    have d5 := hcellB hb2 c5
    have HX2 := hide ((hb2.block _ (cell_ltK z0)).trans (unhide HX1))
    have HB2 := hide ((unhide HB1).trans (hb2.mono (unhide HB1).size))
    have HP2 := hide ((unhide HP1).keep hb2)
    have HN2 := hide (node_keep (unhide HN1) fun k hk => hb2.block k (Nat.lt_of_lt_of_le hk (unhide HP1).hM))
    have HKL := hide ((unhide HKL0).keep fun k hk => (unhide HB2).block k (Nat.lt_of_lt_of_le hk (unhide HM)))
    clear hb2 z0 z1 z2 z3 c0 c1 c5 HX1 HB1 HP1 HN1 HKL0
    rcases hor with ⟨hi, rfl⟩ | ⟨hi, tt, pp, rfl⟩
    rotate_left
    · have HI := hide hi
      clear hi
      go_wp2_with fail
      go_ret
      exact ⟨grown_of_below (unhide HB2), env, scope_below (unhide H) (unhide HB2), Nat.le_add_right _ _, Or.inr ⟨by rw [← unhide HR, if_pos (unhide HI)], _, _, rfl⟩⟩
    have HR2 := hide ((if_neg (by rw [hi]; decide)).symm.trans (unhide HR))
    clear hi HR
    have entL : ∀ (gb : Option Addr) (n c : Nat) (w : World), Sem.run Tryz.prog (callFunc 15 #[.agg #[.pointer (some ⟨tp, 0, none⟩), .pointer (some ⟨sp, 0, none⟩), .int .i64 cv, .bool fn], .slice gb n c]) w = .ok (.enter 15 #[.agg #[.pointer (some ⟨tp, 0, none⟩), .pointer (some ⟨sp, 0, none⟩), .int .i64 cv, .bool fn], .slice gb n c]) w := fun _ _ _ _ => by kernel_rfl
    go_wp2_with fail
    have hc0 := callsFn_any (unhide HP2) cls fn (unhide HN2) (unhide HKS) (unhide HC1)
    unfold plV at hc0
    rw [unhide HCV] at hc0
    refine hc0.mono ?_
    clear hc0
    rintro e WC ⟨rfl, hb3⟩
    have x0 := hcellB hb3 y0
    have x1 := hcellB hb3 y1
    have x2 := hcellB hb3 y2
    have x3 := hcellB hb3 y3
    have g5 := hcellB hb3 d5
    have HB3 := hide ((unhide HB2).trans (hb3.mono (unhide HB2).size))
    have HP3 := hide ((unhide HP2).keep hb3)
    have HNM := hide (unhide HP3).scope.own
    have HKL3 := hide ((unhide HKL).keep fun k hk => hb3.block k (Nat.lt_of_lt_of_le hk (unhide HP2).hM))
    clear hb3 y0 y1 y2 y3 d0 d1 d5
    cases hcf : callsFnP env t with
    | true =>
      rw [hcf] at HR2
      clear hcf
      go_wp2_with fail
      have HMT := hide (show manyL t.kids = c.many + manyL r by rw [unhide HKS]; simp [manyL])
      have HTL := hide (list_tail (show ListAt M WC _ (c :: r) by have := unhide HKL3; rw [unhide HKS] at this; exact this) (by rw [unhide HL]; exact hm2))
      rw [unhide HL] at HTL
      refine wp_region_held_drew (S := fun w' => w'.cell? ⟨w.heap.size, 0, none⟩ = some (.pointer (some ⟨tp, 0, none⟩)) ∧ w'.cell? ⟨w.heap.size, 1, none⟩ = some (.pointer (some ⟨sp, 0, none⟩)) ∧ w'.cell? ⟨w.heap.size, 2, none⟩ = some (.int .i64 cv) ∧ w'.cell? ⟨w.heap.size, 3, none⟩ = some (.bool fn) ∧ w'.cell? ⟨bn, 5, none⟩ = some (.slice (some ⟨kg, 0, none⟩) (L + 1) kcap)) (by kernel_rfl) ⟨x0, x1, x2, x3, g5⟩ (fun hHeld => ?_)
      refine wpAnyH_take (i := 0) (oi := { dst := some 108, op := _, type := _, pos := _, after := _, guard := _ }) (v := ?_) rfl (by kernel_rfl) (by kernel_rfl) (by kernel_rfl) (fun _ _ _ h => h) (Or.inl ⟨by rfl, ?_⟩) (by assumption) ?_
      case refine_2 =>
        intro w hSw
        try dsimp only at hSw
        go_simp
        try with_reducible rfl
      simp only [Act.put, List.setIfInBounds_toArray, List.set_cons_zero, List.set_cons_succ]
      refine wpAnyH_take (i := 1) (oi := { dst := some 109, op := _, type := _, pos := _, after := _, guard := _ }) (v := ?_) rfl (by kernel_rfl) (by kernel_rfl) (by kernel_rfl) (fun _ _ _ h => h) (Or.inl ⟨by rfl, ?_⟩) (by assumption) ?_
      case refine_2 =>
        intro w hSw
        try dsimp only at hSw
        go_simp
        try with_reducible rfl
      simp only [Act.put, List.setIfInBounds_toArray, List.set_cons_zero, List.set_cons_succ]
      refine wpAnyH_take (i := 2) (oi := { dst := some 110, op := _, type := _, pos := _, after := _, guard := _ }) (v := ?_) rfl (by kernel_rfl) (by kernel_rfl) (by kernel_rfl) (fun _ _ _ h => h) (Or.inl ⟨by rfl, ?_⟩) (by assumption) ?_
      case refine_2 =>
        intro w hSw
        try dsimp only at hSw
        go_simp
        try with_reducible rfl
      simp only [Act.put, List.setIfInBounds_toArray, List.set_cons_zero, List.set_cons_succ]
      refine wpAnyH_take (i := 3) (oi := { dst := some 111, op := _, type := _, pos := _, after := _, guard := _ }) (v := ?_) rfl (by kernel_rfl) (by kernel_rfl) (by kernel_rfl) (fun _ _ _ h => h) (Or.inl ⟨by rfl, ?_⟩) (by assumption) ?_
      case refine_2 =>
        intro w hSw
        try dsimp only at hSw
        go_simp
        try with_reducible rfl
      simp only [Act.put, List.setIfInBounds_toArray, List.set_cons_zero, List.set_cons_succ]
      refine wpAnyH_take (i := 4) (oi := { dst := some 112, op := _, type := _, pos := _, after := _, guard := _ }) (v := ?_) rfl (by kernel_rfl) (by kernel_rfl) (by kernel_rfl) (fun _ _ _ h => h) (Or.inl ⟨by rfl, ?_⟩) (by assumption) ?_
      case refine_2 =>
        intro w hSw
        try dsimp only at hSw
        go_simp
        try with_reducible rfl
      simp only [Act.put, List.setIfInBounds_toArray, List.set_cons_zero, List.set_cons_succ]
      refine wpAnyH_take (i := 5) (oi := { dst := some 113, op := _, type := _, pos := _, after := _, guard := _ }) (v := ?_) rfl (by kernel_rfl) (by kernel_rfl) (by kernel_rfl) (fun _ _ _ h => h) (Or.inl ⟨by rfl, ?_⟩) (by assumption) ?_
      case refine_2 =>
        intro w hSw
        try dsimp only at hSw
        go_simp
        try with_reducible rfl
      simp only [Act.put, List.setIfInBounds_toArray, List.set_cons_zero, List.set_cons_succ]
      have hc0 := all_o (hide (unhide IH cls fn (unhide HCLS))) (w := WC.drew) (unhide HP3).drew ((unhide HTL).keep fun _ _ => rfl) (fun k hk => low_kids (unhide HLOW) (unhide HW) k (by rw [unhide HKS]; exact List.mem_cons_of_mem _ hk)) (by have := unhide HBD; have := unhide HMK; have := unhide HMT; omega)
      unfold plV at hc0
      rw [unhide HCV] at hc0
      generalize (if kcap = 1 then some (⟨kg, 0, none⟩ : Addr) else some ⟨kg, 1, none⟩) = gb at hc0 ⊢
      refine wpAnyH_ready (rs := [6]) (by kernel_rfl) (by simp) ?_
      refine AllReadyH.cons (o := { dst := some 114, op := _, type := _, pos := _, after := _, guard := _ }) rfl (fun K hK => ?_) AllReadyH.nil
      refine step_enterG (by kernel_rfl) (by simp [Act.eval, entL, go_sem]) (hc0.mono ?_)
      rintro e W3 ⟨hg3, env3, hs3, hle3, hor⟩
      have hg3' : WC.grownBy W3 (some b) := ⟨hg3.os, hg3.tape, hg3.output, hg3.size, hg3.block⟩
      have qx0 := cell_grown (unhide HNM) hg3' x0
      have qx1 := cell_grown (unhide HNM) hg3' x1
      have qx2 := cell_grown (unhide HNM) hg3' x2
      have qx3 := cell_grown (unhide HNM) hg3' x3
      have qg5 := cell_grown (unhide HNM) hg3' g5
      have HG3 := hide ((grown_of_below (unhide HB3)).trans hg3')
      have HS3 := hide hs3
      have HLE3 := hide hle3
      clear hg3 hg3' hs3 hle3 hc0 x0 x1 x2 x3 g5
      rcases hor with ⟨hr, rfl⟩ | ⟨hr, tt, pp, rfl⟩
      · have HR3 := hide hr
        clear hr
        refine hK.out _ _ ⟨qx0, qx1, qx2, qx3, qg5⟩ (fun hHeldC => ?_)
        clear hK K
        simp only [Act.put, List.setIfInBounds_toArray, List.set_cons_zero, List.set_cons_succ]
        refine wpAnyH_take (i := 7) (oi := { dst := some 4, op := _, type := _, pos := _, after := _, guard := _ }) (v := ?_) rfl (by kernel_rfl) (by kernel_rfl) (by kernel_rfl) (fun _ _ _ h => h) (Or.inl ⟨by rfl, ?_⟩) (by assumption) ?_
        case refine_2 =>
          intro w hSw
          try dsimp only at hSw
          go_simp
          try with_reducible rfl
        simp only [Act.put, List.setIfInBounds_toArray, List.set_cons_zero, List.set_cons_succ]
        refine wpAnyH_done (by kernel_rfl) ?_ _
        clear hHeld hHeldC
        go_wp2_with fail
        go_ret
        exact ⟨unhide HG3, env3, unhide HS3, by have := unhide HLE3; have := unhide HMK; have := unhide HMT; omega, Or.inl ⟨((show _ = R from (congrArg (allP (nodeP T f cls fn) env) (show (if True then t.kids.tail else t.kids) = r by rw [if_pos trivial, unhide HKS]; rfl)).symm.trans (unhide HR2)).symm.trans (unhide HR3)), rfl⟩⟩
      · have HR3 := hide hr
        clear hr
        refine hK.out _ _ ⟨qx0, qx1, qx2, qx3, qg5⟩ (fun hHeldC => ?_)
        clear hK K
        simp only [Act.put, List.setIfInBounds_toArray, List.set_cons_zero, List.set_cons_succ]
        refine wpAnyH_take (i := 7) (oi := { dst := some 4, op := _, type := _, pos := _, after := _, guard := _ }) (v := ?_) rfl (by kernel_rfl) (by kernel_rfl) (by kernel_rfl) (fun _ _ _ h => h) (Or.inl ⟨by rfl, ?_⟩) (by assumption) ?_
        case refine_2 =>
          intro w hSw
          try dsimp only at hSw
          go_simp
          try with_reducible rfl
        simp only [Act.put, List.setIfInBounds_toArray, List.set_cons_zero, List.set_cons_succ]
        refine wpAnyH_done (by kernel_rfl) ?_ _
        clear hHeld hHeldC
        go_wp2_with fail
        go_ret
        exact ⟨unhide HG3, env3, unhide HS3, by have := unhide HLE3; have := unhide HMK; have := unhide HMT; omega, Or.inr ⟨((show _ = R from (congrArg (allP (nodeP T f cls fn) env) (show (if True then t.kids.tail else t.kids) = r by rw [if_pos trivial, unhide HKS]; rfl)).symm.trans (unhide HR2)).symm.trans (unhide HR3)), _, _, rfl⟩⟩
    | false =>
      rw [hcf] at HR2
      clear hcf
      go_wp2_with fail
      have HKL4 := HKL3
      rw [unhide HL] at HKL4
      refine wp_region_held_drew (S := fun w' => w'.cell? ⟨w.heap.size, 0, none⟩ = some (.pointer (some ⟨tp, 0, none⟩)) ∧ w'.cell? ⟨w.heap.size, 1, none⟩ = some (.pointer (some ⟨sp, 0, none⟩)) ∧ w'.cell? ⟨w.heap.size, 2, none⟩ = some (.int .i64 cv) ∧ w'.cell? ⟨w.heap.size, 3, none⟩ = some (.bool fn) ∧ w'.cell? ⟨bn, 5, none⟩ = some (.slice (some ⟨kg, 0, none⟩) (L + 1) kcap)) (by kernel_rfl) ⟨x0, x1, x2, x3, g5⟩ (fun hHeld => ?_)
      refine wpAnyH_take (i := 0) (oi := { dst := some 115, op := _, type := _, pos := _, after := _, guard := _ }) (v := ?_) rfl (by kernel_rfl) (by kernel_rfl) (by kernel_rfl) (fun _ _ _ h => h) (Or.inl ⟨by rfl, ?_⟩) (by assumption) ?_
      case refine_2 =>
        intro w hSw
        try dsimp only at hSw
        go_simp
        try with_reducible rfl
      simp only [Act.put, List.setIfInBounds_toArray, List.set_cons_zero, List.set_cons_succ]
      refine wpAnyH_take (i := 1) (oi := { dst := some 116, op := _, type := _, pos := _, after := _, guard := _ }) (v := ?_) rfl (by kernel_rfl) (by kernel_rfl) (by kernel_rfl) (fun _ _ _ h => h) (Or.inl ⟨by rfl, ?_⟩) (by assumption) ?_
      case refine_2 =>
        intro w hSw
        try dsimp only at hSw
        go_simp
        try with_reducible rfl
      simp only [Act.put, List.setIfInBounds_toArray, List.set_cons_zero, List.set_cons_succ]
      refine wpAnyH_take (i := 2) (oi := { dst := some 117, op := _, type := _, pos := _, after := _, guard := _ }) (v := ?_) rfl (by kernel_rfl) (by kernel_rfl) (by kernel_rfl) (fun _ _ _ h => h) (Or.inl ⟨by rfl, ?_⟩) (by assumption) ?_
      case refine_2 =>
        intro w hSw
        try dsimp only at hSw
        go_simp
        try with_reducible rfl
      simp only [Act.put, List.setIfInBounds_toArray, List.set_cons_zero, List.set_cons_succ]
      refine wpAnyH_take (i := 3) (oi := { dst := some 118, op := _, type := _, pos := _, after := _, guard := _ }) (v := ?_) rfl (by kernel_rfl) (by kernel_rfl) (by kernel_rfl) (fun _ _ _ h => h) (Or.inl ⟨by rfl, ?_⟩) (by assumption) ?_
      case refine_2 =>
        intro w hSw
        try dsimp only at hSw
        go_simp
        try with_reducible rfl
      simp only [Act.put, List.setIfInBounds_toArray, List.set_cons_zero, List.set_cons_succ]
      refine wpAnyH_take (i := 4) (oi := { dst := some 119, op := _, type := _, pos := _, after := _, guard := _ }) (v := ?_) rfl (by kernel_rfl) (by kernel_rfl) (by kernel_rfl) (fun _ _ _ h => h) (Or.inl ⟨by rfl, ?_⟩) (by assumption) ?_
      case refine_2 =>
        intro w hSw
        try dsimp only at hSw
        go_simp
        try with_reducible rfl
      simp only [Act.put, List.setIfInBounds_toArray, List.set_cons_zero, List.set_cons_succ]
      have hc0 := all_any (hide (unhide IH cls fn (unhide HCLS))) (w := WC.drew) (unhide HP3).drew ((unhide HKL4).keep fun _ _ => rfl) (low_kids (unhide HLOW) (unhide HW)) (by have := unhide HBD; have := unhide HMK; omega)
      unfold plV at hc0
      rw [unhide HCV] at hc0
      refine wpAnyH_ready (rs := [5]) (by kernel_rfl) (by simp) ?_
      refine AllReadyH.cons (o := { dst := some 120, op := _, type := _, pos := _, after := _, guard := _ }) rfl (fun K hK => ?_) AllReadyH.nil
      refine step_enterG (by kernel_rfl) (by simp [Act.eval, entL, go_sem]) (hc0.mono ?_)
      rintro e W3 ⟨hg3, env3, hs3, hle3, hor⟩
      have hg3' : WC.grownBy W3 (some b) := ⟨hg3.os, hg3.tape, hg3.output, hg3.size, hg3.block⟩
      have qx0 := cell_grown (unhide HNM) hg3' x0
      have qx1 := cell_grown (unhide HNM) hg3' x1
      have qx2 := cell_grown (unhide HNM) hg3' x2
      have qx3 := cell_grown (unhide HNM) hg3' x3
      have qg5 := cell_grown (unhide HNM) hg3' g5
      have HG3 := hide ((grown_of_below (unhide HB3)).trans hg3')
      have HS3 := hide hs3
      have HLE3 := hide hle3
      clear hg3 hg3' hs3 hle3 hc0 x0 x1 x2 x3 g5
      rcases hor with ⟨hr, rfl⟩ | ⟨hr, tt, pp, rfl⟩
      · have HR3 := hide hr
        clear hr
        refine hK.out _ _ ⟨qx0, qx1, qx2, qx3, qg5⟩ (fun hHeldC => ?_)
        clear hK K
        simp only [Act.put, List.setIfInBounds_toArray, List.set_cons_zero, List.set_cons_succ]
        refine wpAnyH_take (i := 6) (oi := { dst := some 4, op := _, type := _, pos := _, after := _, guard := _ }) (v := ?_) rfl (by kernel_rfl) (by kernel_rfl) (by kernel_rfl) (fun _ _ _ h => h) (Or.inl ⟨by rfl, ?_⟩) (by assumption) ?_
        case refine_2 =>
          intro w hSw
          try dsimp only at hSw
          go_simp
          try with_reducible rfl
        simp only [Act.put, List.setIfInBounds_toArray, List.set_cons_zero, List.set_cons_succ]
        refine wpAnyH_done (by kernel_rfl) ?_ _
        clear hHeld hHeldC
        go_wp2_with fail
        go_ret
        exact ⟨unhide HG3, env3, unhide HS3, by have := unhide HLE3; have := unhide HMK; omega, Or.inl ⟨(show allP (nodeP T f cls fn) env t.kids = R from unhide HR2).symm.trans (unhide HR3), rfl⟩⟩
      · have HR3 := hide hr
        clear hr
        refine hK.out _ _ ⟨qx0, qx1, qx2, qx3, qg5⟩ (fun hHeldC => ?_)
        clear hK K
        simp only [Act.put, List.setIfInBounds_toArray, List.set_cons_zero, List.set_cons_succ]
        refine wpAnyH_take (i := 6) (oi := { dst := some 4, op := _, type := _, pos := _, after := _, guard := _ }) (v := ?_) rfl (by kernel_rfl) (by kernel_rfl) (by kernel_rfl) (fun _ _ _ h => h) (Or.inl ⟨by rfl, ?_⟩) (by assumption) ?_
        case refine_2 =>
          intro w hSw
          try dsimp only at hSw
          go_simp
          try with_reducible rfl
        simp only [Act.put, List.setIfInBounds_toArray, List.set_cons_zero, List.set_cons_succ]
        refine wpAnyH_done (by kernel_rfl) ?_ _
        clear hHeld hHeldC
        go_wp2_with fail
        go_ret
        exact ⟨unhide HG3, env3, unhide HS3, by have := unhide HLE3; have := unhide HMK; omega, Or.inr ⟨(show allP (nodeP T f cls fn) env t.kids = R from unhide HR2).symm.trans (unhide HR3), _, _, rfl⟩⟩
end Go.Proofs.YtjcoobkpmpjpbaaGreatDoor
