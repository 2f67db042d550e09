/-
  A node that is a catch.
  A node that is a var.
  A node of any kind.
  The place of a program's outermost code.
-/
import Derived.Test.YtjcoobkpmpjpbaaGreatDoorM26
namespace Go.Proofs.YtjcoobkpmpjpbaaGreatDoor
open Go.RowKit Go.Maps
set_option linter.unusedSimpArgs false
set_option linter.unusedVariables false

set_option maxRecDepth 100000 in
set_option maxHeartbeats 8000000 in
theorem node_catch {M : Nat} {tp : Nat} {T : Tab} {vc vf : Value} {f : Nat} {cls : Option Nat} {fn : Bool} (IH : Hid (∀ (cls : Option Nat) (fn : Bool), ClsOk T.cs cls → NodeOk M tp T vc vf f cls fn)) (hcls : ClsOk T.cs cls) (hwc : ∀ c ∈ T.cs, Wf c) (hwf : ∀ g ∈ T.fns, ∃ p q, g.kids = p :: q) {w : World} {sp b N : Nat} {env : List (List ByteArray)} {bn : Nat} {t : Tree} (h : PlA M w tp sp b N T vc vf env) (hnd : NodeAt (fun k => k < M) w (.pointer (some ⟨bn, 0, none⟩)) t) (hlow : Lowt (f + 1) t) (hw : Wf t) (hn : ownN env + t.many ≤ 1000000) (hk : t.kind = 15) :
    Calls Tryz.prog 30 #[plV tp sp cls fn, .pointer (some ⟨bn, 0, none⟩)] w fun e w' => NdPost w sp b N t.many env (nodeP T (f + 1) cls fn env t) e w' := by
  have HR := hide (show (if itselfP T cls fn env t = false then none else match t.kids with | b :: _ => if (allP (nodeP T f cls fn) ([t.text] :: env) b.kids).isSome = true then some env else none | [] => none) = nodeP T (f + 1) cls fn env t by rw [nodeP]; simp [hk]; rfl)
  generalize nodeP T (f + 1) cls fn env t = R at HR ⊢
  obtain ⟨ks, hv⟩ := node_view hnd
  have HLT : Hid (bn < w.heap.size) := Nat.lt_of_lt_of_le hv.lt h.hM
  have HKL0 := hide hv.kids
  obtain ⟨kg, kcap, rfl, hkm, _⟩ := hv.kids
  have HMK := hide (many_kids t)
  have HBD := hide hn
  have HLOW := hide hlow
  have HW := hide hw
  have HCLS := hide hcls
  have H := hide h
  have HM := hide h.hM
  have hb1 := (Below.refl w.heap.size w).alloc (Nat.le_refl _) (.cells #[.pointer (some ⟨tp, 0, none⟩), .pointer (some ⟨sp, 0, none⟩), .int .i64 (clsV cls), .bool fn] 49)
  have HX1 := hide (hnew w (.cells #[.pointer (some ⟨tp, 0, none⟩), .pointer (some ⟨sp, 0, none⟩), .int .i64 (clsV cls), .bool fn] 49))
  have HP1 := hide (h.keep hb1)
  have HN1 := hide (node_keep hnd fun k hk => hb1.block k (Nat.lt_of_lt_of_le hk h.hM))
  have c0 := hcellB hb1 hv.c0
  have c1 := hcellB hb1 hv.c1
  have c5 := hcellB hb1 hv.c5
  obtain ⟨z0, z1, z2, z3⟩ := box_cells (unhide HX1)
  have HWC := hide hwc
  have HWF := hide hwf
  have HB1 := hide hb1
  rw [hk] at c0
  obtain ⟨q, hks⟩ := hw.here.1.2.1 hk
  have HKS := hide hks
  have HMQ := hide (many_kids q)
  have HMT := hide (show manyL t.kids = q.many by rw [hks]; simp [manyL])
  have HTS := hide hw.here.2.1
  unfold plV
  obtain ⟨cv, hcv⟩ : ∃ cv, clsV cls = cv := ⟨_, rfl⟩
  have HCV := hide hcv
  simp only [hcv] at z0 z1 z2 z3 c0 c1 c5 HX1 HP1 HN1 HB1 ⊢
  clear hcv h hnd hlow hw hn hcls hwc hwf hv hb1 hkm hk hks
  go_enter Tryz.func30, Tryz.ntmps30
  go_wp2_with fail
  generalize w.alloc (.cells #[.pointer (some ⟨tp, 0, none⟩), .pointer (some ⟨sp, 0, none⟩), .int .i64 cv, .bool fn] 49) = W at *
  have hc0 := itself_any (unhide HP1) (unhide HCLS) fn (unhide HN1) (unhide HW) (unhide HWC) (unhide HWF)
  unfold plV at hc0
  rw [unhide HCV] at hc0
  refine hc0.mono ?_
  clear hc0
  rintro e W2 ⟨hb2, hor⟩
  have y0 := hcellB hb2 z0
  have y1 := hcellB hb2 z1
  have y2 := hcellB hb2 z2
  have y3 := hcellB hb2 z3
  have d0 := hcellB hb2 c0
  have d1 := hcellB hb2 c1
  have d5 := hcellB hb2 c5
  have HX2 := hide ((hb2.block _ (cell_ltK z0)).trans (unhide HX1))
  have HB2 := hide ((unhide HB1).trans (hb2.mono (unhide HB1).size))
  have HP2 := hide ((unhide HP1).keep hb2)
  have HN2 := hide (node_keep (unhide HN1) fun k hk => hb2.block k (Nat.lt_of_lt_of_le hk (unhide HP1).hM))
  have HKL := hide ((unhide HKL0).keep fun k hk => (unhide HB2).block k (Nat.lt_of_lt_of_le hk (unhide HM)))
  clear hb2 z0 z1 z2 z3 c0 c1 c5 HX1 HB1 HP1 HN1 HKL0
  rcases hor with ⟨hi, rfl⟩ | ⟨hi, tt, pp, rfl⟩
  rotate_left
  · have HI := hide hi
    clear hi
    go_wp2_with fail
    go_ret
    exact ⟨grown_of_below (unhide HB2), env, scope_below (unhide H) (unhide HB2), Nat.le_add_right _ _, Or.inr ⟨by rw [← unhide HR, if_pos (unhide HI)], _, _, rfl⟩⟩
  have HR2 := hide ((if_neg (by rw [hi]; decide)).symm.trans (unhide HR))
  clear hi HR
  have HR4 := hide (show (if (allP (nodeP T f cls fn) ([t.text] :: env) q.kids).isSome = true then some env else none) = R by have := unhide HR2; rw [unhide HKS] at this; exact this)
  clear HR2
  have entA : ∀ (b : Nat) (s : ByteArray) (w : World), Sem.run Tryz.prog (callFunc 23 #[.map (some b), .string s]) w = .ok (.enter 23 #[.map (some b), .string s]) w := fun _ _ _ => by kernel_rfl
  go_wp2_with fail
  have hc0 := inner_any (unhide HP2) cls fn
  unfold plV at hc0
  rw [unhide HCV] at hc0
  refine hc0.mono ?_
  clear hc0
  rintro e W3 ⟨sp', b', N', rfl, hp3, g2, g4⟩
  have x0 := hcellB g4 y0
  have x1 := hcellB g4 y1
  have x2 := hcellB g4 y2
  have x3 := hcellB g4 y3
  have g1 := hcellB g4 d1
  have g5 := hcellB g4 d5
  have HX3 := hide ((g4.block _ (cell_ltK y0)).trans (unhide HX2))
  have f0 := hfroz (unhide HX3) 0
  have f1 := hfroz (unhide HX3) 1
  have f2 := hfroz (unhide HX3) 2
  have f3 := hfroz (unhide HX3) 3
  have HB3 := hide ((unhide HB2).trans (g4.mono (unhide HB2).size))
  have HLB := hide (show w.heap.size ≤ b' from Nat.le_trans (unhide HB2).size g2)
  have HP3 := hide hp3
  have HKL3 := hide ((unhide HKL).keep fun k hk => g4.block k (Nat.lt_of_lt_of_le hk (unhide HP2).hM))
  clear hp3 g2 g4 y0 y1 y2 y3 d0 d1 d5
  have HP4 := hide ((((((unhide HP3).set (s := w.heap.size) (i := 0) (unhide HM) ⟨_, _, unhide HX3⟩ (.pointer (some ⟨tp, 0, none⟩))).set (s := w.heap.size) (i := 1) (unhide HM) ⟨_, _, hset (unhide HX3) (i := 0) (.pointer (some ⟨tp, 0, none⟩))⟩ (.pointer (some ⟨sp', 0, none⟩))).set (s := w.heap.size) (i := 2) (unhide HM) ⟨_, _, hset (hset (unhide HX3) (i := 0) (.pointer (some ⟨tp, 0, none⟩))) (i := 1) (.pointer (some ⟨sp', 0, none⟩))⟩ (.int .i64 cv)).set (s := w.heap.size) (i := 3) (unhide HM) ⟨_, _, hset (hset (hset (unhide HX3) (i := 0) (.pointer (some ⟨tp, 0, none⟩))) (i := 1) (.pointer (some ⟨sp', 0, none⟩))) (i := 2) (.int .i64 cv)⟩ (.bool fn)))
  have HKL4 := hide ((list_set (list_set (list_set (list_set (unhide HKL3) (s := w.heap.size) (i := 0) (unhide HM) (.pointer (some ⟨tp, 0, none⟩))) (s := w.heap.size) (i := 1) (unhide HM) (.pointer (some ⟨sp', 0, none⟩))) (s := w.heap.size) (i := 2) (unhide HM) (.int .i64 cv)) (s := w.heap.size) (i := 3) (unhide HM) (.bool fn)))
  have HB4 := hide ((((((unhide HB3).setCell (p := ⟨w.heap.size, 0, none⟩) (Nat.le_refl _) (.pointer (some ⟨tp, 0, none⟩))).setCell (p := ⟨w.heap.size, 1, none⟩) (Nat.le_refl _) (.pointer (some ⟨sp', 0, none⟩))).setCell (p := ⟨w.heap.size, 2, none⟩) (Nat.le_refl _) (.int .i64 cv)).setCell (p := ⟨w.heap.size, 3, none⟩) (Nat.le_refl _) (.bool fn)))
  have HX4 := hide (hset (hset (hset (hset (unhide HX3) (i := 0) (.pointer (some ⟨tp, 0, none⟩))) (i := 1) (.pointer (some ⟨sp', 0, none⟩))) (i := 2) (.int .i64 cv)) (i := 3) (.bool fn))
  have h1 := (cell_other (s := w.heap.size) (i := 3) (cell_other (s := w.heap.size) (i := 2) (cell_other (s := w.heap.size) (i := 1) (cell_other (s := w.heap.size) (i := 0) g1 (Nat.ne_of_lt (unhide HLT)) (.pointer (some ⟨tp, 0, none⟩))) (Nat.ne_of_lt (unhide HLT)) (.pointer (some ⟨sp', 0, none⟩))) (Nat.ne_of_lt (unhide HLT)) (.int .i64 cv)) (Nat.ne_of_lt (unhide HLT)) (.bool fn))
  have h5 := (cell_other (s := w.heap.size) (i := 3) (cell_other (s := w.heap.size) (i := 2) (cell_other (s := w.heap.size) (i := 1) (cell_other (s := w.heap.size) (i := 0) g5 (Nat.ne_of_lt (unhide HLT)) (.pointer (some ⟨tp, 0, none⟩))) (Nat.ne_of_lt (unhide HLT)) (.pointer (some ⟨sp', 0, none⟩))) (Nat.ne_of_lt (unhide HLT)) (.int .i64 cv)) (Nat.ne_of_lt (unhide HLT)) (.bool fn))
  clear g1 g5
  go_wp2_with fail
  clear x0 x1 x2 x3 f0 f1 f2 f3
  generalize ((((W3.setCell ⟨w.heap.size, 0, none⟩ (.pointer (some ⟨tp, 0, none⟩))).setCell ⟨w.heap.size, 1, none⟩ (.pointer (some ⟨sp', 0, none⟩))).setCell ⟨w.heap.size, 2, none⟩ (.int .i64 cv)).setCell ⟨w.heap.size, 3, none⟩ (.bool fn)) = W4 at *
  obtain ⟨y0, y1, y2, y3⟩ := box_cells (show W4.heap[w.heap.size]? = some (.cells #[.pointer (some ⟨tp, 0, none⟩), .pointer (some ⟨sp', 0, none⟩), .int .i64 cv, .bool fn] 49 (0, 0)) from unhide HX4)
  have HBX := hide (show W4.heap[w.heap.size]? = some (.cells #[.pointer (some ⟨tp, 0, none⟩), .pointer (some ⟨sp', 0, none⟩), .int .i64 cv, .bool fn] 49 (0, 0)) from unhide HX4)
  obtain ⟨oo, rr, eo, s0⟩ := scope_cons (unhide HP4).scope
  have HNM0 := hide (show NamesAt W4 b' [] from (unhide HP4).scope.own)
  clear eo HX4
  refine wp_region_held_drew (S := fun w' => w'.cell? ⟨w.heap.size, 1, none⟩ = some (.pointer (some ⟨sp', 0, none⟩)) ∧ w'.cell? ⟨sp', 0, none⟩ = some (.map (some b')) ∧ w'.cell? ⟨bn, 1, none⟩ = some (.string t.text)) (by kernel_rfl) ⟨y1, s0, h1⟩ (fun hHeld => ?_)
  refine wpAnyH_take (i := 0) (oi := { dst := some 63, op := _, type := _, pos := _, after := _, guard := _ }) (v := ?_) rfl (by kernel_rfl) (by kernel_rfl) (by kernel_rfl) (fun _ _ _ h => h) (Or.inl ⟨by rfl, ?_⟩) (by assumption) ?_
  case refine_2 =>
    intro w hSw
    try dsimp only at hSw
    go_simp
    try with_reducible rfl
  simp only [Act.put, List.setIfInBounds_toArray, List.set_cons_zero, List.set_cons_succ]
  refine wpAnyH_take (i := 1) (oi := { dst := some 64, op := _, type := _, pos := _, after := _, guard := _ }) (v := ?_) rfl (by kernel_rfl) (by kernel_rfl) (by kernel_rfl) (fun _ _ _ h => h) (Or.inl ⟨by rfl, ?_⟩) (by assumption) ?_
  case refine_2 =>
    intro w hSw
    try dsimp only at hSw
    go_simp
    try with_reducible rfl
  simp only [Act.put, List.setIfInBounds_toArray, List.set_cons_zero, List.set_cons_succ]
  refine wpAnyH_take (i := 2) (oi := { dst := some 65, op := _, type := _, pos := _, after := _, guard := _ }) (v := ?_) rfl (by kernel_rfl) (by kernel_rfl) (by kernel_rfl) (fun _ _ _ h => h) (Or.inl ⟨by rfl, ?_⟩) (by assumption) ?_
  case refine_2 =>
    intro w hSw
    try dsimp only at hSw
    go_simp
    try with_reducible rfl
  simp only [Act.put, List.setIfInBounds_toArray, List.set_cons_zero, List.set_cons_succ]
  refine wpAnyH_take (i := 3) (oi := { dst := some 66, op := _, type := _, pos := _, after := _, guard := _ }) (v := ?_) rfl (by kernel_rfl) (by kernel_rfl) (by kernel_rfl) (fun _ _ _ h => h) (Or.inl ⟨by rfl, ?_⟩) (by assumption) ?_
  case refine_2 =>
    intro w hSw
    try dsimp only at hSw
    go_simp
    try with_reducible rfl
  simp only [Act.put, List.setIfInBounds_toArray, List.set_cons_zero, List.set_cons_succ]
  refine wpAnyH_take (i := 4) (oi := { dst := some 67, op := _, type := _, pos := _, after := _, guard := _ }) (v := ?_) rfl (by kernel_rfl) (by kernel_rfl) (by kernel_rfl) (fun _ _ _ h => h) (Or.inl ⟨by rfl, ?_⟩) (by assumption) ?_
  case refine_2 =>
    intro w hSw
    try dsimp only at hSw
    go_simp
    try with_reducible rfl
  simp only [Act.put, List.setIfInBounds_toArray, List.set_cons_zero, List.set_cons_succ]
  refine wpAnyH_take (i := 5) (oi := { dst := some 68, op := _, type := _, pos := _, after := _, guard := _ }) (v := ?_) rfl (by kernel_rfl) (by kernel_rfl) (by kernel_rfl) (fun _ _ _ h => h) (Or.inl ⟨by rfl, ?_⟩) (by assumption) ?_
  case refine_2 =>
    intro w hSw
    try dsimp only at hSw
    go_simp
    try with_reducible rfl
  simp only [Act.put, List.setIfInBounds_toArray, List.set_cons_zero, List.set_cons_succ]
  refine wpAnyH_take (i := 6) (oi := { dst := some 69, op := _, type := _, pos := _, after := _, guard := _ }) (v := ?_) rfl (by kernel_rfl) (by kernel_rfl) (by kernel_rfl) (fun _ _ _ h => h) (Or.inl ⟨by rfl, ?_⟩) (by assumption) ?_
  case refine_2 =>
    intro w hSw
    try dsimp only at hSw
    go_simp
    try with_reducible rfl
  simp only [Act.put, List.setIfInBounds_toArray, List.set_cons_zero, List.set_cons_succ]
  refine wpAnyH_take (i := 7) (oi := { dst := some 70, op := _, type := _, pos := _, after := _, guard := _ }) (v := ?_) rfl (by kernel_rfl) (by kernel_rfl) (by kernel_rfl) (fun _ _ _ h => h) (Or.inl ⟨by rfl, ?_⟩) (by assumption) ?_
  case refine_2 =>
    intro w hSw
    try dsimp only at hSw
    go_simp
    try with_reducible rfl
  simp only [Act.put, List.setIfInBounds_toArray, List.set_cons_zero, List.set_cons_succ]
  refine wpAnyH_take (i := 8) (oi := { dst := some 71, op := _, type := _, pos := _, after := _, guard := _ }) (v := ?_) rfl (by kernel_rfl) (by kernel_rfl) (by kernel_rfl) (fun _ _ _ h => h) (Or.inl ⟨by rfl, ?_⟩) (by assumption) ?_
  case refine_2 =>
    intro w hSw
    try dsimp only at hSw
    go_simp
    try with_reducible rfl
  simp only [Act.put, List.setIfInBounds_toArray, List.set_cons_zero, List.set_cons_succ]
  have hc0 := add_name (w := W4.drew) ((unhide HNM0).move rfl) (unhide HTS) (Nat.zero_le _)
  refine wpAnyH_ready (rs := [9]) (by kernel_rfl) (by simp) ?_
  refine AllReadyH.cons (o := { dst := some 72, op := _, type := _, pos := _, after := _, guard := _ }) rfl (fun K hK => ?_) AllReadyH.nil
  refine step_enterG (by kernel_rfl) (by simp [Act.eval, entA, go_sem]) (hc0.mono ?_)
  rintro e W6 ⟨rfl, hnm6, hg6⟩
  have hg6' : W4.grownBy W6 (some b') := ⟨hg6.os, hg6.tape, hg6.output, hg6.size, hg6.block⟩
  have zy0 := cell_grown (unhide HNM0) hg6' y0
  have zy1 := cell_grown (unhide HNM0) hg6' y1
  have zy2 := cell_grown (unhide HNM0) hg6' y2
  have zy3 := cell_grown (unhide HNM0) hg6' y3
  have zs0 := cell_grown (unhide HNM0) hg6' s0
  have zh1 := cell_grown (unhide HNM0) hg6' h1
  have zh5 := cell_grown (unhide HNM0) hg6' h5
  have HB6 := hide ((unhide HB4).grown hg6' (unhide HB4).size (fun k hk => by have := Option.some.inj hk; have := unhide HLB; omega))
  have HP6 := hide (show PlA M W6 tp sp' b' N' T vc vf ([t.text] :: env) from (unhide HP4).grown hg6' ((unhide HP4).scope.put (show NamesAt W6 b' [t.text] from hnm6) hg6'))
  have HNM := hide (unhide HP6).scope.own
  have HKL6 := hide (list_grown (unhide HKL4) hg6' (unhide HP4).hM (unhide HP4).hb)
  clear hg6 hg6' hnm6 hc0 y0 y1 y2 y3 s0 h1 h5
  refine hK.out _ _ ⟨zy1, zs0, zh1⟩ (fun hHeld9 => ?_)
  clear hK K
  simp only [Act.put, List.setIfInBounds_toArray, List.set_cons_zero, List.set_cons_succ]
  refine wpAnyH_done (by kernel_rfl) ?_ _
  clear hHeld hHeld9 zs0 zh1
  obtain ⟨kg', kcap', ek, _, hkat⟩ := unhide HKL6
  cases ek
  obtain ⟨ka, b1, rfl, hka, k0, hq⟩ := hkat 0 q (by rw [unhide HKS]; rfl)
  obtain ⟨qk, hqv⟩ := node_view hq
  have HQL := hide hqv.kids
  have q5 := hqv.c5
  obtain ⟨qg, qcap, rfl, _, _⟩ := hqv.kids
  have hl1 : t.kids.length = 1 := by rw [unhide HKS]; rfl
  rw [hl1] at zh5
  have entL : ∀ (sp' : Nat) (w : World), Sem.run Tryz.prog (callFunc 15 #[.agg #[.pointer (some ⟨tp, 0, none⟩), .pointer (some ⟨sp', 0, none⟩), .int .i64 cv, .bool fn], .slice qg q.kids.length qcap]) w = .ok (.enter 15 #[.agg #[.pointer (some ⟨tp, 0, none⟩), .pointer (some ⟨sp', 0, none⟩), .int .i64 cv, .bool fn], .slice qg q.kids.length qcap]) w := fun _ _ => by kernel_rfl
  clear hkat hq hqv hl1
  go_wp2_with fail
  refine wp_region_held_drew (S := fun w' => w'.cell? ⟨w.heap.size, 0, none⟩ = some (.pointer (some ⟨tp, 0, none⟩)) ∧ w'.cell? ⟨w.heap.size, 1, none⟩ = some (.pointer (some ⟨sp', 0, none⟩)) ∧ w'.cell? ⟨w.heap.size, 2, none⟩ = some (.int .i64 cv) ∧ w'.cell? ⟨w.heap.size, 3, none⟩ = some (.bool fn) ∧ w'.cell? ⟨bn, 5, none⟩ = some (.slice (some ⟨ka, 0, none⟩) 1 kcap) ∧ w'.cell? ⟨ka, 0, none⟩ = some (.pointer (some ⟨b1, 0, none⟩)) ∧ w'.cell? ⟨b1, 5, none⟩ = some (.slice qg q.kids.length qcap)) (by kernel_rfl) ⟨zy0, zy1, zy2, zy3, zh5, k0, q5⟩ (fun hHeld => ?_)
  refine wpAnyH_take (i := 0) (oi := { dst := some 73, op := _, type := _, pos := _, after := _, guard := _ }) (v := ?_) rfl (by kernel_rfl) (by kernel_rfl) (by kernel_rfl) (fun _ _ _ h => h) (Or.inl ⟨by rfl, ?_⟩) (by assumption) ?_
  case refine_2 =>
    intro w hSw
    try dsimp only at hSw
    go_simp
    try with_reducible rfl
  simp only [Act.put, List.setIfInBounds_toArray, List.set_cons_zero, List.set_cons_succ]
  refine wpAnyH_take (i := 1) (oi := { dst := some 74, op := _, type := _, pos := _, after := _, guard := _ }) (v := ?_) rfl (by kernel_rfl) (by kernel_rfl) (by kernel_rfl) (fun _ _ _ h => h) (Or.inl ⟨by rfl, ?_⟩) (by assumption) ?_
  case refine_2 =>
    intro w hSw
    try dsimp only at hSw
    go_simp
    try with_reducible rfl
  simp only [Act.put, List.setIfInBounds_toArray, List.set_cons_zero, List.set_cons_succ]
  refine wpAnyH_take (i := 2) (oi := { dst := some 75, op := _, type := _, pos := _, after := _, guard := _ }) (v := ?_) rfl (by kernel_rfl) (by kernel_rfl) (by kernel_rfl) (fun _ _ _ h => h) (Or.inl ⟨by rfl, ?_⟩) (by assumption) ?_
  case refine_2 =>
    intro w hSw
    try dsimp only at hSw
    go_simp
    try with_reducible rfl
  simp only [Act.put, List.setIfInBounds_toArray, List.set_cons_zero, List.set_cons_succ]
  refine wpAnyH_take (i := 3) (oi := { dst := some 76, op := _, type := _, pos := _, after := _, guard := _ }) (v := ?_) rfl (by kernel_rfl) (by kernel_rfl) (by kernel_rfl) (fun _ _ _ h => h) (Or.inl ⟨by rfl, ?_⟩) (by assumption) ?_
  case refine_2 =>
    intro w hSw
    try dsimp only at hSw
    go_simp
    try with_reducible rfl
  simp only [Act.put, List.setIfInBounds_toArray, List.set_cons_zero, List.set_cons_succ]
  refine wpAnyH_take (i := 4) (oi := { dst := some 77, op := _, type := _, pos := _, after := _, guard := _ }) (v := ?_) rfl (by kernel_rfl) (by kernel_rfl) (by kernel_rfl) (fun _ _ _ h => h) (Or.inl ⟨by rfl, ?_⟩) (by assumption) ?_
  case refine_2 =>
    intro w hSw
    try dsimp only at hSw
    go_simp
    try with_reducible rfl
  simp only [Act.put, List.setIfInBounds_toArray, List.set_cons_zero, List.set_cons_succ]
  refine wpAnyH_take (i := 5) (oi := { dst := some 78, op := _, type := _, pos := _, after := _, guard := _ }) (v := ?_) rfl (by kernel_rfl) (by kernel_rfl) (by kernel_rfl) (fun _ _ _ h => h) (Or.inl ⟨by rfl, ?_⟩) (by assumption) ?_
  case refine_2 =>
    intro w hSw
    try dsimp only at hSw
    go_simp
    try with_reducible rfl
  simp only [Act.put, List.setIfInBounds_toArray, List.set_cons_zero, List.set_cons_succ]
  refine wpAnyH_take (i := 6) (oi := { dst := some 79, op := _, type := _, pos := _, after := _, guard := _ }) (v := ?_) rfl (by kernel_rfl) (by kernel_rfl) (by kernel_rfl) (fun _ _ _ h => h) (Or.inl ⟨by rfl, ?_⟩) (by assumption) ?_
  case refine_2 =>
    intro w hSw
    try dsimp only at hSw
    go_simp
    try with_reducible rfl
  simp only [Act.put, List.setIfInBounds_toArray, List.set_cons_zero, List.set_cons_succ]
  refine wpAnyH_take (i := 7) (oi := { dst := some 80, op := _, type := _, pos := _, after := _, guard := _ }) (v := ?_) rfl (by kernel_rfl) (by kernel_rfl) (by kernel_rfl) (fun _ _ _ h => h) (Or.inl ⟨by rfl, ?_⟩) (by assumption) ?_
  case refine_2 =>
    intro w hSw
    try dsimp only at hSw
    go_simp
    try with_reducible rfl
  simp only [Act.put, List.setIfInBounds_toArray, List.set_cons_zero, List.set_cons_succ]
  refine wpAnyH_take (i := 8) (oi := { dst := some 81, op := _, type := _, pos := _, after := _, guard := _ }) (v := ?_) rfl (by kernel_rfl) (by kernel_rfl) (by kernel_rfl) (fun _ _ _ h => h) (Or.inl ⟨by rfl, ?_⟩) (by assumption) ?_
  case refine_2 =>
    intro w hSw
    try dsimp only at hSw
    go_simp
    try with_reducible rfl
  simp only [Act.put, List.setIfInBounds_toArray, List.set_cons_zero, List.set_cons_succ]
  refine wpAnyH_take (i := 9) (oi := { dst := some 82, op := _, type := _, pos := _, after := _, guard := _ }) (v := ?_) rfl (by kernel_rfl) (by kernel_rfl) (by kernel_rfl) (fun _ _ _ h => h) (Or.inl ⟨by rfl, ?_⟩) (by assumption) ?_
  case refine_2 =>
    intro w hSw
    try dsimp only at hSw
    go_simp
    try with_reducible rfl
  simp only [Act.put, List.setIfInBounds_toArray, List.set_cons_zero, List.set_cons_succ]
  have hc0 := all_any (hide (unhide IH cls fn (unhide HCLS))) (w := W6.drew) (unhide HP6).drew ((unhide HQL).keep fun _ _ => rfl) (low_kids2 (unhide HLOW) (unhide HW) (q := q) (by rw [unhide HKS]; exact List.mem_cons_self ..)) (by
    have := unhide HBD
    have := unhide HMK
    have := unhide HMT
    have := unhide HMQ
    simp only [ownN, List.headD_cons, List.length_cons, List.length_nil]
    omega)
  unfold plV at hc0
  rw [unhide HCV] at hc0
  refine wpAnyH_ready (rs := [10]) (by kernel_rfl) (by simp) ?_
  refine AllReadyH.cons (o := { dst := some 83, op := _, type := _, pos := _, after := _, guard := _ }) rfl (fun K hK => ?_) AllReadyH.nil
  refine step_enterG (by kernel_rfl) (by simp [Act.eval, entL, go_sem]) (hc0.mono ?_)
  rintro e W5 ⟨hg5, env5, hs5, _, hor⟩
  have hg5' : W6.grownBy W5 (some b') := ⟨hg5.os, hg5.tape, hg5.output, hg5.size, hg5.block⟩
  have qzy0 := cell_grown (unhide HNM) hg5' zy0
  have qzy1 := cell_grown (unhide HNM) hg5' zy1
  have qzy2 := cell_grown (unhide HNM) hg5' zy2
  have qzy3 := cell_grown (unhide HNM) hg5' zy3
  have qzh5 := cell_grown (unhide HNM) hg5' zh5
  have qk0 := cell_grown (unhide HNM) hg5' k0
  have qq5 := cell_grown (unhide HNM) hg5' q5
  have HB5 := hide ((unhide HB6).grown hg5' (unhide HB6).size (fun k hk => by have := Option.some.inj hk; have := unhide HLB; omega))
  clear hg5 hg5' hs5 hc0 zy0 zy1 zy2 zy3 zh5 k0 q5
  rcases hor with ⟨hr, rfl⟩ | ⟨hr, tt, pp, rfl⟩
  · have HR3 := hide hr
    clear hr
    refine hK.out _ _ ⟨qzy0, qzy1, qzy2, qzy3, qzh5, qk0, qq5⟩ (fun hHeldC => ?_)
    clear hK K
    simp only [Act.put, List.setIfInBounds_toArray, List.set_cons_zero, List.set_cons_succ]
    refine wpAnyH_take (i := 11) (oi := { dst := some 4, op := _, type := _, pos := _, after := _, guard := _ }) (v := ?_) rfl (by kernel_rfl) (by kernel_rfl) (by kernel_rfl) (fun _ _ _ h => h) (Or.inl ⟨by rfl, ?_⟩) (by assumption) ?_
    case refine_2 =>
      intro w hSw
      try dsimp only at hSw
      go_simp
      try with_reducible rfl
    simp only [Act.put, List.setIfInBounds_toArray, List.set_cons_zero, List.set_cons_succ]
    refine wpAnyH_done (by kernel_rfl) ?_ _
    clear hHeldC
    go_wp2_with fail
    go_ret
    exact ⟨grown_of_below (unhide HB5), env, scope_below (unhide H) (unhide HB5), Nat.le_add_right _ _, Or.inl ⟨by rw [← unhide HR4, unhide HR3]; rfl, rfl⟩⟩
  · have HR3 := hide hr
    clear hr
    refine hK.out _ _ ⟨qzy0, qzy1, qzy2, qzy3, qzh5, qk0, qq5⟩ (fun hHeldC => ?_)
    clear hK K
    simp only [Act.put, List.setIfInBounds_toArray, List.set_cons_zero, List.set_cons_succ]
    refine wpAnyH_take (i := 11) (oi := { dst := some 4, op := _, type := _, pos := _, after := _, guard := _ }) (v := ?_) rfl (by kernel_rfl) (by kernel_rfl) (by kernel_rfl) (fun _ _ _ h => h) (Or.inl ⟨by rfl, ?_⟩) (by assumption) ?_
    case refine_2 =>
      intro w hSw
      try dsimp only at hSw
      go_simp
      try with_reducible rfl
    simp only [Act.put, List.setIfInBounds_toArray, List.set_cons_zero, List.set_cons_succ]
    refine wpAnyH_done (by kernel_rfl) ?_ _
    clear hHeldC
    go_wp2_with fail
    go_ret
    exact ⟨grown_of_below (unhide HB5), env, scope_below (unhide H) (unhide HB5), Nat.le_add_right _ _, Or.inr ⟨by rw [← unhide HR4, unhide HR3]; rfl, _, _, rfl⟩⟩
end Go.Proofs.YtjcoobkpmpjpbaaGreatDoor

namespace Go.Proofs.YtjcoobkpmpjpbaaGreatDoor
open Go.RowKit Go.Maps
set_option linter.unusedSimpArgs false
set_option linter.unusedVariables false

set_option maxRecDepth 100000 in
set_option maxHeartbeats 8000000 in
theorem node_var {M : Nat} {tp : Nat} {T : Tab} {vc vf : Value} {f : Nat} {cls : Option Nat} {fn : Bool} (IH : Hid (∀ (cls : Option Nat) (fn : Bool), ClsOk T.cs cls → NodeOk M tp T vc vf f cls fn)) (hcls : ClsOk T.cs cls) (hwc : ∀ c ∈ T.cs, Wf c) (hwf : ∀ g ∈ T.fns, ∃ p q, g.kids = p :: q) {w : World} {sp b N : Nat} {env : List (List ByteArray)} {bn : Nat} {t : Tree} (h : PlA M w tp sp b N T vc vf env) (hnd : NodeAt (fun k => k < M) w (.pointer (some ⟨bn, 0, none⟩)) t) (hlow : Lowt (f + 1) t) (hw : Wf t) (hn : ownN env + t.many ≤ 1000000) (hk : t.kind = 8) :
    Calls Tryz.prog 30 #[plV tp sp cls fn, .pointer (some ⟨bn, 0, none⟩)] w fun e w' => NdPost w sp b N t.many env (nodeP T (f + 1) cls fn env t) e w' := by
  have HR := hide (show (if itselfP T cls fn env t = false then none else (allP (nodeP T f cls fn) env t.kids).map (addNew t.text)) = nodeP T (f + 1) cls fn env t by rw [nodeP]; simp [hk])
  generalize nodeP T (f + 1) cls fn env t = R at HR ⊢
  obtain ⟨ks, hv⟩ := node_view hnd
  have HLT : Hid (bn < w.heap.size) := Nat.lt_of_lt_of_le hv.lt h.hM
  have HKL0 := hide hv.kids
  obtain ⟨kg, kcap, rfl, hkm, _⟩ := hv.kids
  have HMK := hide (many_kids t)
  have HBD := hide hn
  have HLOW := hide hlow
  have HW := hide hw
  have HCLS := hide hcls
  have H := hide h
  have HM := hide h.hM
  have hb1 := (Below.refl w.heap.size w).alloc (Nat.le_refl _) (.cells #[.pointer (some ⟨tp, 0, none⟩), .pointer (some ⟨sp, 0, none⟩), .int .i64 (clsV cls), .bool fn] 49)
  have HX1 := hide (hnew w (.cells #[.pointer (some ⟨tp, 0, none⟩), .pointer (some ⟨sp, 0, none⟩), .int .i64 (clsV cls), .bool fn] 49))
  have HP1 := hide (h.keep hb1)
  have HN1 := hide (node_keep hnd fun k hk => hb1.block k (Nat.lt_of_lt_of_le hk h.hM))
  have c0 := hcellB hb1 hv.c0
  have c1 := hcellB hb1 hv.c1
  have c5 := hcellB hb1 hv.c5
  obtain ⟨z0, z1, z2, z3⟩ := box_cells (unhide HX1)
  have HWC := hide hwc
  have HWF := hide hwf
  have HB1 := hide hb1
  rw [hk] at c0
  have HTS := hide hw.here.2.1
  have HK8 := hide hk
  unfold plV
  obtain ⟨cv, hcv⟩ : ∃ cv, clsV cls = cv := ⟨_, rfl⟩
  have HCV := hide hcv
  simp only [hcv] at z0 z1 z2 z3 c0 c1 c5 HX1 HP1 HN1 HB1 ⊢
  clear hcv h hnd hlow hw hn hcls hwc hwf hv hb1 hkm hk 
  go_enter Tryz.func30, Tryz.ntmps30
  go_wp2_with fail
  generalize w.alloc (.cells #[.pointer (some ⟨tp, 0, none⟩), .pointer (some ⟨sp, 0, none⟩), .int .i64 cv, .bool fn] 49) = W at *
  have hc0 := itself_any (unhide HP1) (unhide HCLS) fn (unhide HN1) (unhide HW) (unhide HWC) (unhide HWF)
  unfold plV at hc0
  rw [unhide HCV] at hc0
  refine hc0.mono ?_
  clear hc0
  rintro e W2 ⟨hb2, hor⟩
  have y0 := hcellB hb2 z0
  have y1 := hcellB hb2 z1
  have y2 := hcellB hb2 z2
  have y3 := hcellB hb2 z3
  have d0 := hcellB hb2 c0
  have d1 := hcellB hb2 c1
  have d5 := hcellB hb2 c5
  have HX2 := hide ((hb2.block _ (cell_ltK z0)).trans (unhide HX1))
  have HB2 := hide ((unhide HB1).trans (hb2.mono (unhide HB1).size))
  have HP2 := hide ((unhide HP1).keep hb2)
  have HN2 := hide (node_keep (unhide HN1) fun k hk => hb2.block k (Nat.lt_of_lt_of_le hk (unhide HP1).hM))
  have HKL := hide ((unhide HKL0).keep fun k hk => (unhide HB2).block k (Nat.lt_of_lt_of_le hk (unhide HM)))
  clear hb2 z0 z1 z2 z3 c0 c1 c5 HX1 HB1 HP1 HN1 HKL0
  rcases hor with ⟨hi, rfl⟩ | ⟨hi, tt, pp, rfl⟩
  rotate_left
  · have HI := hide hi
    clear hi
    go_wp2_with fail
    go_ret
    exact ⟨grown_of_below (unhide HB2), env, scope_below (unhide H) (unhide HB2), Nat.le_add_right _ _, Or.inr ⟨by rw [← unhide HR, if_pos (unhide HI)], _, _, rfl⟩⟩
  have HR2 := hide ((if_neg (by rw [hi]; decide)).symm.trans (unhide HR))
  have HI := hide hi
  clear hi HR
  have entA : ∀ (b : Nat) (s : ByteArray) (w : World), Sem.run Tryz.prog (callFunc 23 #[.map (some b), .string s]) w = .ok (.enter 23 #[.map (some b), .string s]) w := fun _ _ _ => by kernel_rfl
  have entL : ∀ (w : World), Sem.run Tryz.prog (callFunc 15 #[.agg #[.pointer (some ⟨tp, 0, none⟩), .pointer (some ⟨sp, 0, none⟩), .int .i64 cv, .bool fn], .slice kg t.kids.length kcap]) w = .ok (.enter 15 #[.agg #[.pointer (some ⟨tp, 0, none⟩), .pointer (some ⟨sp, 0, none⟩), .int .i64 cv, .bool fn], .slice kg t.kids.length kcap]) w := fun _ => by kernel_rfl
  have HNM := hide (unhide HP2).scope.own
  go_wp2_with fail
  refine wp_region_held_drew (S := fun w' => w'.cell? ⟨w.heap.size, 0, none⟩ = some (.pointer (some ⟨tp, 0, none⟩)) ∧ w'.cell? ⟨w.heap.size, 1, none⟩ = some (.pointer (some ⟨sp, 0, none⟩)) ∧ w'.cell? ⟨w.heap.size, 2, none⟩ = some (.int .i64 cv) ∧ w'.cell? ⟨w.heap.size, 3, none⟩ = some (.bool fn) ∧ w'.cell? ⟨bn, 5, none⟩ = some (.slice kg t.kids.length kcap) ∧ w'.cell? ⟨bn, 1, none⟩ = some (.string t.text)) (by kernel_rfl) ⟨y0, y1, y2, y3, d5, d1⟩ (fun hHeld => ?_)
  refine wpAnyH_take (i := 0) (oi := { dst := some 86, op := _, type := _, pos := _, after := _, guard := _ }) (v := ?_) rfl (by kernel_rfl) (by kernel_rfl) (by kernel_rfl) (fun _ _ _ h => h) (Or.inl ⟨by rfl, ?_⟩) (by assumption) ?_
  case refine_2 =>
    intro w hSw
    try dsimp only at hSw
    go_simp
    try with_reducible rfl
  simp only [Act.put, List.setIfInBounds_toArray, List.set_cons_zero, List.set_cons_succ]
  refine wpAnyH_take (i := 1) (oi := { dst := some 87, op := _, type := _, pos := _, after := _, guard := _ }) (v := ?_) rfl (by kernel_rfl) (by kernel_rfl) (by kernel_rfl) (fun _ _ _ h => h) (Or.inl ⟨by rfl, ?_⟩) (by assumption) ?_
  case refine_2 =>
    intro w hSw
    try dsimp only at hSw
    go_simp
    try with_reducible rfl
  simp only [Act.put, List.setIfInBounds_toArray, List.set_cons_zero, List.set_cons_succ]
  refine wpAnyH_take (i := 2) (oi := { dst := some 88, op := _, type := _, pos := _, after := _, guard := _ }) (v := ?_) rfl (by kernel_rfl) (by kernel_rfl) (by kernel_rfl) (fun _ _ _ h => h) (Or.inl ⟨by rfl, ?_⟩) (by assumption) ?_
  case refine_2 =>
    intro w hSw
    try dsimp only at hSw
    go_simp
    try with_reducible rfl
  simp only [Act.put, List.setIfInBounds_toArray, List.set_cons_zero, List.set_cons_succ]
  refine wpAnyH_take (i := 3) (oi := { dst := some 89, op := _, type := _, pos := _, after := _, guard := _ }) (v := ?_) rfl (by kernel_rfl) (by kernel_rfl) (by kernel_rfl) (fun _ _ _ h => h) (Or.inl ⟨by rfl, ?_⟩) (by assumption) ?_
  case refine_2 =>
    intro w hSw
    try dsimp only at hSw
    go_simp
    try with_reducible rfl
  simp only [Act.put, List.setIfInBounds_toArray, List.set_cons_zero, List.set_cons_succ]
  refine wpAnyH_take (i := 4) (oi := { dst := some 90, op := _, type := _, pos := _, after := _, guard := _ }) (v := ?_) rfl (by kernel_rfl) (by kernel_rfl) (by kernel_rfl) (fun _ _ _ h => h) (Or.inl ⟨by rfl, ?_⟩) (by assumption) ?_
  case refine_2 =>
    intro w hSw
    try dsimp only at hSw
    go_simp
    try with_reducible rfl
  simp only [Act.put, List.setIfInBounds_toArray, List.set_cons_zero, List.set_cons_succ]
  have hc0 := all_any (hide (unhide IH cls fn (unhide HCLS))) (w := W2.drew) (unhide HP2).drew ((unhide HKL).keep fun _ _ => rfl) (low_kids (unhide HLOW) (unhide HW)) (by have := unhide HBD; have := unhide HMK; omega)
  unfold plV at hc0
  rw [unhide HCV] at hc0
  refine wpAnyH_ready (rs := [5]) (by kernel_rfl) (by simp) ?_
  refine AllReadyH.cons (o := { dst := some 91, op := _, type := _, pos := _, after := _, guard := _ }) rfl (fun K hK => ?_) AllReadyH.nil
  refine step_enterG (by kernel_rfl) (by simp [Act.eval, entL, go_sem]) (hc0.mono ?_)
  rintro e W3 ⟨hg3, env3, hs3, hle3, hor⟩
  have hg3' : W2.grownBy W3 (some b) := ⟨hg3.os, hg3.tape, hg3.output, hg3.size, hg3.block⟩
  have qy0 := cell_grown (unhide HNM) hg3' y0
  have qy1 := cell_grown (unhide HNM) hg3' y1
  have qy2 := cell_grown (unhide HNM) hg3' y2
  have qy3 := cell_grown (unhide HNM) hg3' y3
  have qd5 := cell_grown (unhide HNM) hg3' d5
  have qd1 := cell_grown (unhide HNM) hg3' d1
  have HG3 := hide ((grown_of_below (unhide HB2)).trans hg3')
  have HS3 := hide hs3
  have HG23 := hide hg3'
  have HLE3 := hide hle3
  clear hg3 hg3' hs3 hle3 hc0 y0 y1 y2 y3 d5 d1
  rcases hor with ⟨hr, rfl⟩ | ⟨hr, tt, pp, rfl⟩
  · have HR3 := hide hr
    clear hr
    refine hK.out _ _ ⟨qy0, qy1, qy2, qy3, qd5, qd1⟩ (fun hHeldC => ?_)
    clear hK K
    simp only [Act.put, List.setIfInBounds_toArray, List.set_cons_zero, List.set_cons_succ]
    refine wpAnyH_take (i := 6) (oi := { dst := some 6, op := _, type := _, pos := _, after := _, guard := _ }) (v := ?_) rfl (by kernel_rfl) (by kernel_rfl) (by kernel_rfl) (fun _ _ _ h => h) (Or.inl ⟨by rfl, ?_⟩) (by assumption) ?_
    case refine_2 =>
      intro w hSw
      try dsimp only at hSw
      go_simp
      try with_reducible rfl
    simp only [Act.put, List.setIfInBounds_toArray, List.set_cons_zero, List.set_cons_succ]
    refine wpAnyH_done (by kernel_rfl) ?_ _
    clear hHeld hHeldC
    have HP3 := hide ((unhide HP2).grown (unhide HG23) (unhide HS3))
    obtain ⟨oo, rr, eo, s0⟩ := scope_cons (unhide HS3)
    have HEO := hide eo
    have HNM3 := hide (unhide HS3).own
    clear eo
    go_wp2_with fail
    refine wp_region_held_drew (S := fun w' => w'.cell? ⟨w.heap.size, 1, none⟩ = some (.pointer (some ⟨sp, 0, none⟩)) ∧ w'.cell? ⟨sp, 0, none⟩ = some (.map (some b)) ∧ w'.cell? ⟨bn, 1, none⟩ = some (.string t.text)) (by kernel_rfl) ⟨qy1, s0, qd1⟩ (fun hHeld => ?_)
    refine wpAnyH_take (i := 0) (oi := { dst := some 92, op := _, type := _, pos := _, after := _, guard := _ }) (v := ?_) rfl (by kernel_rfl) (by kernel_rfl) (by kernel_rfl) (fun _ _ _ h => h) (Or.inl ⟨by rfl, ?_⟩) (by assumption) ?_
    case refine_2 =>
      intro w hSw
      try dsimp only at hSw
      go_simp
      try with_reducible rfl
    simp only [Act.put, List.setIfInBounds_toArray, List.set_cons_zero, List.set_cons_succ]
    refine wpAnyH_take (i := 1) (oi := { dst := some 93, op := _, type := _, pos := _, after := _, guard := _ }) (v := ?_) rfl (by kernel_rfl) (by kernel_rfl) (by kernel_rfl) (fun _ _ _ h => h) (Or.inl ⟨by rfl, ?_⟩) (by assumption) ?_
    case refine_2 =>
      intro w hSw
      try dsimp only at hSw
      go_simp
      try with_reducible rfl
    simp only [Act.put, List.setIfInBounds_toArray, List.set_cons_zero, List.set_cons_succ]
    refine wpAnyH_take (i := 2) (oi := { dst := some 94, op := _, type := _, pos := _, after := _, guard := _ }) (v := ?_) rfl (by kernel_rfl) (by kernel_rfl) (by kernel_rfl) (fun _ _ _ h => h) (Or.inl ⟨by rfl, ?_⟩) (by assumption) ?_
    case refine_2 =>
      intro w hSw
      try dsimp only at hSw
      go_simp
      try with_reducible rfl
    simp only [Act.put, List.setIfInBounds_toArray, List.set_cons_zero, List.set_cons_succ]
    refine wpAnyH_take (i := 3) (oi := { dst := some 95, op := _, type := _, pos := _, after := _, guard := _ }) (v := ?_) rfl (by kernel_rfl) (by kernel_rfl) (by kernel_rfl) (fun _ _ _ h => h) (Or.inl ⟨by rfl, ?_⟩) (by assumption) ?_
    case refine_2 =>
      intro w hSw
      try dsimp only at hSw
      go_simp
      try with_reducible rfl
    simp only [Act.put, List.setIfInBounds_toArray, List.set_cons_zero, List.set_cons_succ]
    refine wpAnyH_take (i := 4) (oi := { dst := some 96, op := _, type := _, pos := _, after := _, guard := _ }) (v := ?_) rfl (by kernel_rfl) (by kernel_rfl) (by kernel_rfl) (fun _ _ _ h => h) (Or.inl ⟨by rfl, ?_⟩) (by assumption) ?_
    case refine_2 =>
      intro w hSw
      try dsimp only at hSw
      go_simp
      try with_reducible rfl
    simp only [Act.put, List.setIfInBounds_toArray, List.set_cons_zero, List.set_cons_succ]
    refine wpAnyH_take (i := 5) (oi := { dst := some 97, op := _, type := _, pos := _, after := _, guard := _ }) (v := ?_) rfl (by kernel_rfl) (by kernel_rfl) (by kernel_rfl) (fun _ _ _ h => h) (Or.inl ⟨by rfl, ?_⟩) (by assumption) ?_
    case refine_2 =>
      intro w hSw
      try dsimp only at hSw
      go_simp
      try with_reducible rfl
    simp only [Act.put, List.setIfInBounds_toArray, List.set_cons_zero, List.set_cons_succ]
    refine wpAnyH_take (i := 6) (oi := { dst := some 98, op := _, type := _, pos := _, after := _, guard := _ }) (v := ?_) rfl (by kernel_rfl) (by kernel_rfl) (by kernel_rfl) (fun _ _ _ h => h) (Or.inl ⟨by rfl, ?_⟩) (by assumption) ?_
    case refine_2 =>
      intro w hSw
      try dsimp only at hSw
      go_simp
      try with_reducible rfl
    simp only [Act.put, List.setIfInBounds_toArray, List.set_cons_zero, List.set_cons_succ]
    refine wpAnyH_take (i := 7) (oi := { dst := some 99, op := _, type := _, pos := _, after := _, guard := _ }) (v := ?_) rfl (by kernel_rfl) (by kernel_rfl) (by kernel_rfl) (fun _ _ _ h => h) (Or.inl ⟨by rfl, ?_⟩) (by assumption) ?_
    case refine_2 =>
      intro w hSw
      try dsimp only at hSw
      go_simp
      try with_reducible rfl
    simp only [Act.put, List.setIfInBounds_toArray, List.set_cons_zero, List.set_cons_succ]
    refine wpAnyH_take (i := 8) (oi := { dst := some 100, op := _, type := _, pos := _, after := _, guard := _ }) (v := ?_) rfl (by kernel_rfl) (by kernel_rfl) (by kernel_rfl) (fun _ _ _ h => h) (Or.inl ⟨by rfl, ?_⟩) (by assumption) ?_
    case refine_2 =>
      intro w hSw
      try dsimp only at hSw
      go_simp
      try with_reducible rfl
    simp only [Act.put, List.setIfInBounds_toArray, List.set_cons_zero, List.set_cons_succ]
    have hbd : (env3.headD []).length ≤ 1000000 := by
      have := unhide HLE3
      have := unhide HBD
      have := unhide HMK
      unfold ownN at *
      omega
    have hc0 := add_name (w := W3.drew) ((unhide HNM3).move rfl) (unhide HTS) hbd
    refine wpAnyH_ready (rs := [9]) (by kernel_rfl) (by simp) ?_
    refine AllReadyH.cons (o := { dst := some 101, op := _, type := _, pos := _, after := _, guard := _ }) rfl (fun K hK => ?_) AllReadyH.nil
    refine step_enterG (by kernel_rfl) (by simp [Act.eval, entA, go_sem]) (hc0.mono ?_)
    rintro e W6 ⟨rfl, hnm6, hg6⟩
    have hg6' : W3.grownBy W6 (some b) := ⟨hg6.os, hg6.tape, hg6.output, hg6.size, hg6.block⟩
    have zqy1 := cell_grown (unhide HNM3) hg6' qy1
    have zs0 := cell_grown (unhide HNM3) hg6' s0
    have zqd1 := cell_grown (unhide HNM3) hg6' qd1
    have HG6 := hide ((unhide HG3).trans hg6')
    have HS6 := hide ((unhide HS3).put hnm6 hg6')
    clear hg6 hg6' hnm6 hc0 hbd qy0 qy1 qy2 qy3 qd5 qd1 s0
    refine hK.out _ _ ⟨zqy1, zs0, zqd1⟩ (fun hHeld9 => ?_)
    clear hK K
    simp only [Act.put, List.setIfInBounds_toArray, List.set_cons_zero, List.set_cons_succ]
    refine wpAnyH_done (by kernel_rfl) ?_ _
    clear hHeld hHeld9
    go_wp2_with fail
    go_ret
    refine ⟨unhide HG6, _, unhide HS6, by
      have h3 := unhide HLE3
      have h4 := unhide HMK
      have h5 : ownN ((if hasName (env3.headD []) t.text then env3.headD [] else t.text :: env3.headD []) :: env3.tail) ≤ ownN env3 + 1 := by
        unfold ownN
        rw [List.headD_cons]
        split
        · omega
        · rw [List.length_cons]; exact Nat.le_refl _
      exact Nat.le_trans h5 (by omega), Or.inl ⟨?_, rfl⟩⟩
    rw [← unhide HR2, unhide HR3]
    rfl
  · have HR3 := hide hr
    clear hr
    refine hK.out _ _ ⟨qy0, qy1, qy2, qy3, qd5, qd1⟩ (fun hHeldC => ?_)
    clear hK K
    simp only [Act.put, List.setIfInBounds_toArray, List.set_cons_zero, List.set_cons_succ]
    refine wpAnyH_take (i := 6) (oi := { dst := some 6, op := _, type := _, pos := _, after := _, guard := _ }) (v := ?_) rfl (by kernel_rfl) (by kernel_rfl) (by kernel_rfl) (fun _ _ _ h => h) (Or.inl ⟨by rfl, ?_⟩) (by assumption) ?_
    case refine_2 =>
      intro w hSw
      try dsimp only at hSw
      go_simp
      try with_reducible rfl
    simp only [Act.put, List.setIfInBounds_toArray, List.set_cons_zero, List.set_cons_succ]
    refine wpAnyH_done (by kernel_rfl) ?_ _
    clear hHeld hHeldC
    have HP3 := hide ((unhide HP2).grown (unhide HG23) (unhide HS3))
    obtain ⟨oo, rr, eo, s0⟩ := scope_cons (unhide HS3)
    have HEO := hide eo
    have HNM3 := hide (unhide HS3).own
    clear eo
    go_wp2_with fail
    refine wp_region_held_drew (S := fun w' => w'.cell? ⟨w.heap.size, 1, none⟩ = some (.pointer (some ⟨sp, 0, none⟩)) ∧ w'.cell? ⟨sp, 0, none⟩ = some (.map (some b)) ∧ w'.cell? ⟨bn, 1, none⟩ = some (.string t.text)) (by kernel_rfl) ⟨qy1, s0, qd1⟩ (fun hHeld => ?_)
    refine wpAnyH_take (i := 0) (oi := { dst := some 92, op := _, type := _, pos := _, after := _, guard := _ }) (v := ?_) rfl (by kernel_rfl) (by kernel_rfl) (by kernel_rfl) (fun _ _ _ h => h) (Or.inl ⟨by rfl, ?_⟩) (by assumption) ?_
    case refine_2 =>
      intro w hSw
      try dsimp only at hSw
      go_simp
      try with_reducible rfl
    simp only [Act.put, List.setIfInBounds_toArray, List.set_cons_zero, List.set_cons_succ]
    refine wpAnyH_take (i := 1) (oi := { dst := some 93, op := _, type := _, pos := _, after := _, guard := _ }) (v := ?_) rfl (by kernel_rfl) (by kernel_rfl) (by kernel_rfl) (fun _ _ _ h => h) (Or.inl ⟨by rfl, ?_⟩) (by assumption) ?_
    case refine_2 =>
      intro w hSw
      try dsimp only at hSw
      go_simp
      try with_reducible rfl
    simp only [Act.put, List.setIfInBounds_toArray, List.set_cons_zero, List.set_cons_succ]
    refine wpAnyH_take (i := 2) (oi := { dst := some 94, op := _, type := _, pos := _, after := _, guard := _ }) (v := ?_) rfl (by kernel_rfl) (by kernel_rfl) (by kernel_rfl) (fun _ _ _ h => h) (Or.inl ⟨by rfl, ?_⟩) (by assumption) ?_
    case refine_2 =>
      intro w hSw
      try dsimp only at hSw
      go_simp
      try with_reducible rfl
    simp only [Act.put, List.setIfInBounds_toArray, List.set_cons_zero, List.set_cons_succ]
    refine wpAnyH_take (i := 3) (oi := { dst := some 95, op := _, type := _, pos := _, after := _, guard := _ }) (v := ?_) rfl (by kernel_rfl) (by kernel_rfl) (by kernel_rfl) (fun _ _ _ h => h) (Or.inl ⟨by rfl, ?_⟩) (by assumption) ?_
    case refine_2 =>
      intro w hSw
      try dsimp only at hSw
      go_simp
      try with_reducible rfl
    simp only [Act.put, List.setIfInBounds_toArray, List.set_cons_zero, List.set_cons_succ]
    refine wpAnyH_take (i := 4) (oi := { dst := some 96, op := _, type := _, pos := _, after := _, guard := _ }) (v := ?_) rfl (by kernel_rfl) (by kernel_rfl) (by kernel_rfl) (fun _ _ _ h => h) (Or.inl ⟨by rfl, ?_⟩) (by assumption) ?_
    case refine_2 =>
      intro w hSw
      try dsimp only at hSw
      go_simp
      try with_reducible rfl
    simp only [Act.put, List.setIfInBounds_toArray, List.set_cons_zero, List.set_cons_succ]
    refine wpAnyH_take (i := 5) (oi := { dst := some 97, op := _, type := _, pos := _, after := _, guard := _ }) (v := ?_) rfl (by kernel_rfl) (by kernel_rfl) (by kernel_rfl) (fun _ _ _ h => h) (Or.inl ⟨by rfl, ?_⟩) (by assumption) ?_
    case refine_2 =>
      intro w hSw
      try dsimp only at hSw
      go_simp
      try with_reducible rfl
    simp only [Act.put, List.setIfInBounds_toArray, List.set_cons_zero, List.set_cons_succ]
    refine wpAnyH_take (i := 6) (oi := { dst := some 98, op := _, type := _, pos := _, after := _, guard := _ }) (v := ?_) rfl (by kernel_rfl) (by kernel_rfl) (by kernel_rfl) (fun _ _ _ h => h) (Or.inl ⟨by rfl, ?_⟩) (by assumption) ?_
    case refine_2 =>
      intro w hSw
      try dsimp only at hSw
      go_simp
      try with_reducible rfl
    simp only [Act.put, List.setIfInBounds_toArray, List.set_cons_zero, List.set_cons_succ]
    refine wpAnyH_take (i := 7) (oi := { dst := some 99, op := _, type := _, pos := _, after := _, guard := _ }) (v := ?_) rfl (by kernel_rfl) (by kernel_rfl) (by kernel_rfl) (fun _ _ _ h => h) (Or.inl ⟨by rfl, ?_⟩) (by assumption) ?_
    case refine_2 =>
      intro w hSw
      try dsimp only at hSw
      go_simp
      try with_reducible rfl
    simp only [Act.put, List.setIfInBounds_toArray, List.set_cons_zero, List.set_cons_succ]
    refine wpAnyH_take (i := 8) (oi := { dst := some 100, op := _, type := _, pos := _, after := _, guard := _ }) (v := ?_) rfl (by kernel_rfl) (by kernel_rfl) (by kernel_rfl) (fun _ _ _ h => h) (Or.inl ⟨by rfl, ?_⟩) (by assumption) ?_
    case refine_2 =>
      intro w hSw
      try dsimp only at hSw
      go_simp
      try with_reducible rfl
    simp only [Act.put, List.setIfInBounds_toArray, List.set_cons_zero, List.set_cons_succ]
    have hbd : (env3.headD []).length ≤ 1000000 := by
      have := unhide HLE3
      have := unhide HBD
      have := unhide HMK
      unfold ownN at *
      omega
    have hc0 := add_name (w := W3.drew) ((unhide HNM3).move rfl) (unhide HTS) hbd
    refine wpAnyH_ready (rs := [9]) (by kernel_rfl) (by simp) ?_
    refine AllReadyH.cons (o := { dst := some 101, op := _, type := _, pos := _, after := _, guard := _ }) rfl (fun K hK => ?_) AllReadyH.nil
    refine step_enterG (by kernel_rfl) (by simp [Act.eval, entA, go_sem]) (hc0.mono ?_)
    rintro e W6 ⟨rfl, hnm6, hg6⟩
    have hg6' : W3.grownBy W6 (some b) := ⟨hg6.os, hg6.tape, hg6.output, hg6.size, hg6.block⟩
    have zqy1 := cell_grown (unhide HNM3) hg6' qy1
    have zs0 := cell_grown (unhide HNM3) hg6' s0
    have zqd1 := cell_grown (unhide HNM3) hg6' qd1
    have HG6 := hide ((unhide HG3).trans hg6')
    have HS6 := hide ((unhide HS3).put hnm6 hg6')
    clear hg6 hg6' hnm6 hc0 hbd qy0 qy1 qy2 qy3 qd5 qd1 s0
    refine hK.out _ _ ⟨zqy1, zs0, zqd1⟩ (fun hHeld9 => ?_)
    clear hK K
    simp only [Act.put, List.setIfInBounds_toArray, List.set_cons_zero, List.set_cons_succ]
    refine wpAnyH_done (by kernel_rfl) ?_ _
    clear hHeld hHeld9
    go_wp2_with fail
    go_ret
    refine ⟨unhide HG6, _, unhide HS6, by
      have h3 := unhide HLE3
      have h4 := unhide HMK
      have h5 : ownN ((if hasName (env3.headD []) t.text then env3.headD [] else t.text :: env3.headD []) :: env3.tail) ≤ ownN env3 + 1 := by
        unfold ownN
        rw [List.headD_cons]
        split
        · omega
        · rw [List.length_cons]; exact Nat.le_refl _
      exact Nat.le_trans h5 (by omega), Or.inr ⟨?_, _, _, rfl⟩⟩
    rw [← unhide HR2, unhide HR3]
    rfl
end Go.Proofs.YtjcoobkpmpjpbaaGreatDoor

namespace Go.Proofs.YtjcoobkpmpjpbaaGreatDoor
open Go.RowKit Go.Maps

theorem node_any {M tp : Nat} {T : Tab} {vc vf : Value} (hwc : ∀ c ∈ T.cs, Wf c) (hwf : ∀ g ∈ T.fns, ∃ p q, g.kids = p :: q) : ∀ (f : Nat) (cls : Option Nat) (fn : Bool), ClsOk T.cs cls → NodeOk M tp T vc vf f cls fn
  | 0, _, _, _ => fun _ _ _ _ _ _ _ _ _ hl => absurd hl (fun h => h)
  | f + 1, cls, fn, hcls => fun w sp b N env bn t h hnd hlow hw hn => by
    have IH := hide (node_any (M := M) (tp := tp) (vc := vc) (vf := vf) hwc hwf f)
    by_cases h2 : t.kind = 2
    · exact node_class IH hcls hwc hwf h hnd hlow hw hn h2
    by_cases h4 : t.kind = 4
    · exact node_method IH hcls hwc hwf h hnd hlow hw hn h4
    by_cases h5 : t.kind = 5
    · exact node_fn IH hcls hwc hwf h hnd hlow hw hn h5
    by_cases h28 : t.kind = 28
    · exact node_lambda IH hcls hwc hwf h hnd hlow hw hn h28
    by_cases h7 : t.kind = 7
    · exact node_block IH hcls hwc hwf h hnd hlow hw hn h7
    by_cases h15 : t.kind = 15
    · exact node_catch IH hcls hwc hwf h hnd hlow hw hn h15
    by_cases h8 : t.kind = 8
    · exact node_var IH hcls hwc hwf h hnd hlow hw hn h8
    by_cases h45 : t.kind = 45
    · exact node_call IH hcls hwc hwf h hnd hlow hw hn h45
    exact node_other IH hcls hwc hwf h hnd hlow hw hn h2 h4 h5 h28 h7 h15 h8 h45
end Go.Proofs.YtjcoobkpmpjpbaaGreatDoor

namespace Go.Proofs.YtjcoobkpmpjpbaaGreatDoor
open Go.RowKit Go.Maps

set_option maxRecDepth 100000 in
set_option maxHeartbeats 4000000 in
theorem outerPlace_any {M : Nat} {w : World} {tp : Nat} {T : Tab} {vc vf : Value} (h : TabAt M w tp T vc vf) (hM : M ≤ w.heap.size) :
    Calls Tryz.prog 14 #[.pointer (some ⟨tp, 0, none⟩)] w fun e w' => ∃ sp b N, e = .returned (plV tp sp none false) ∧ PlA M w' tp sp b N T vc vf [[]] ∧ w.heap.size ≤ b ∧ Below w.heap.size w w' := by
  have H := hide h
  have HM := hide hM
  have HB0 := hide ((Below.refl w.heap.size w).alloc (Nat.le_refl _) (.cells #[.pointer none, .pointer none, .int .i64 0, .bool false] 49))
  have HX0 := hide (hnew w (.cells #[.pointer none, .pointer none, .int .i64 0, .bool false] 49))
  clear h hM
  go_enter Tryz.func14, Tryz.ntmps14
  go_wp2_with fail
  generalize w.alloc (.cells #[.pointer none, .pointer none, .int .i64 0, .bool false] 49) = W at *
  refine (alone_any W).mono ?_
  rintro e W2 ⟨N', sp', b', rfl, g1, g2, g3, g4⟩
  have HX := hide ((g4.block _ (Array.getElem?_eq_some_iff.1 (unhide HX0)).1).trans (unhide HX0))
  have z0 := hcell (unhide HX) 0
  have z1 := hcell (unhide HX) 1
  have z2 := hcell (unhide HX) 2
  have z3 := hcell (unhide HX) 3
  simp only [List.getElem?_toArray, List.getElem?_cons_zero, List.getElem?_cons_succ] at z0 z1 z2 z3
  have f0 := hfroz (unhide HX) 0
  have f1 := hfroz (unhide HX) 1
  have f2 := hfroz (unhide HX) 2
  have f3 := hfroz (unhide HX) 3
  have HG := hide g3
  have HB := hide ((unhide HB0).trans (g4.mono (unhide HB0).size))
  have HL := hide (Nat.le_trans (unhide HB0).size g2)
  clear g1 g2 g3 g4
  go_wp2_with fail
  have hfin := hset (hset (hset (hset (unhide HX) (i := 0) (.pointer (some ⟨tp, 0, none⟩))) (i := 1) (.pointer (some ⟨sp', 0, none⟩))) (i := 2) (.int .i64 (-1))) (i := 3) (.bool false)
  refine bodyPost_ret (v := .agg #[.pointer (some ⟨tp, 0, none⟩), .pointer (some ⟨sp', 0, none⟩), .int .i64 (-1), .bool false]) (results_cell_row Tryz.results14 _ _ w.heap.size 49 _ (0, 0) _ rfl hfin Tryz.underlying49 rfl (by kernel_rfl)) rfl ?_
  have q0 : ∃ cs fr, W2.heap[w.heap.size]? = some (.cells cs 49 fr) := ⟨_, _, unhide HX⟩
  have hbB := (((((unhide HB).setCell (p := ⟨w.heap.size, 0, none⟩) (Nat.le_refl _) (.pointer (some ⟨tp, 0, none⟩))).setCell (p := ⟨w.heap.size, 1, none⟩) (Nat.le_refl _) (.pointer (some ⟨sp', 0, none⟩))).setCell (p := ⟨w.heap.size, 2, none⟩) (Nat.le_refl _) (.int .i64 (-1))).setCell (p := ⟨w.heap.size, 3, none⟩) (Nat.le_refl _) (.bool false))
  have hsc := (unhide HG).but (((((ButPl.refl W2).set q0 (i := 0) (.pointer (some ⟨tp, 0, none⟩))).set q0 (i := 1) (.pointer (some ⟨sp', 0, none⟩))).set q0 (i := 2) (.int .i64 (-1))).set q0 (i := 3) (.bool false)) (by simp only [size_set]; exact Nat.le_refl _)
  exact ⟨sp', b', N', rfl, ⟨(unhide H).keep fun k hk => hbB.block k (Nat.lt_of_lt_of_le hk (unhide HM)), hsc, Nat.le_trans (unhide HM) hbB.size, Nat.le_trans (unhide HM) (unhide HL)⟩, unhide HL, hbB⟩
end Go.Proofs.YtjcoobkpmpjpbaaGreatDoor
