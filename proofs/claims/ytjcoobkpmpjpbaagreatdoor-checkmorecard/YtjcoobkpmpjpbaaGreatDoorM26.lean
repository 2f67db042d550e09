/-
  A node that is a function, a method, a lambda.
  A node that is a block.
-/
import Derived.Test.YtjcoobkpmpjpbaaGreatDoorM25
namespace Go.Proofs.YtjcoobkpmpjpbaaGreatDoor
open Go.RowKit Go.Maps
set_option linter.unusedSimpArgs false
set_option linter.unusedVariables false

set_option maxRecDepth 100000 in
set_option maxHeartbeats 8000000 in
theorem node_fn {M : Nat} {tp : Nat} {T : Tab} {vc vf : Value} {f : Nat} {cls : Option Nat} {fn : Bool} (IH : Hid (∀ (cls : Option Nat) (fn : Bool), ClsOk T.cs cls → NodeOk M tp T vc vf f cls fn)) (hcls : ClsOk T.cs cls) (hwc : ∀ c ∈ T.cs, Wf c) (hwf : ∀ g ∈ T.fns, ∃ p q, g.kids = p :: q) {w : World} {sp b N : Nat} {env : List (List ByteArray)} {bn : Nat} {t : Tree} (h : PlA M w tp sp b N T vc vf env) (hnd : NodeAt (fun k => k < M) w (.pointer (some ⟨bn, 0, none⟩)) t) (hlow : Lowt (f + 1) t) (hw : Wf t) (hn : ownN env + t.many ≤ 1000000) (hk : t.kind = 5) :
    Calls Tryz.prog 30 #[plV tp sp cls fn, .pointer (some ⟨bn, 0, none⟩)] w fun e w' => NdPost w sp b N t.many env (nodeP T (f + 1) cls fn env t) e w' := by
  have HR := hide (show (if itselfP T cls fn env t = false then none else if bodyOk (nodeP T f cls true) [[]] t = true then some env else none) = nodeP T (f + 1) cls fn env t by rw [nodeP]; simp [hk])
  generalize nodeP T (f + 1) cls fn env t = R at HR ⊢
  obtain ⟨ks, hv⟩ := node_view hnd
  have HLT : Hid (bn < w.heap.size) := Nat.lt_of_lt_of_le hv.lt h.hM
  have HKL0 := hide hv.kids
  obtain ⟨kg, kcap, rfl, hkm, _⟩ := hv.kids
  have HMK := hide (many_kids t)
  have HBD := hide hn
  have HLOW := hide hlow
  have HW := hide hw
  have HCLS := hide hcls
  have H := hide h
  have HM := hide h.hM
  have hb1 := (Below.refl w.heap.size w).alloc (Nat.le_refl _) (.cells #[.pointer (some ⟨tp, 0, none⟩), .pointer (some ⟨sp, 0, none⟩), .int .i64 (clsV cls), .bool fn] 49)
  have HX1 := hide (hnew w (.cells #[.pointer (some ⟨tp, 0, none⟩), .pointer (some ⟨sp, 0, none⟩), .int .i64 (clsV cls), .bool fn] 49))
  have HP1 := hide (h.keep hb1)
  have HN1 := hide (node_keep hnd fun k hk => hb1.block k (Nat.lt_of_lt_of_le hk h.hM))
  have c0 := hcellB hb1 hv.c0
  have c1 := hcellB hb1 hv.c1
  have c5 := hcellB hb1 hv.c5
  obtain ⟨z0, z1, z2, z3⟩ := box_cells (unhide HX1)
  have HWC := hide hwc
  have HWF := hide hwf
  have HB1 := hide hb1
  rw [hk] at c0
  obtain ⟨p, q, hks⟩ := hw.here.1.1 (by omega)
  have HKS := hide hks
  have HMP := hide (many_kids p)
  have HMQ := hide (many_kids q)
  have HMT := hide (show manyL t.kids = p.many + q.many by rw [hks]; simp [manyL])
  unfold plV
  obtain ⟨cv, hcv⟩ : ∃ cv, clsV cls = cv := ⟨_, rfl⟩
  have HCV := hide hcv
  simp only [hcv] at z0 z1 z2 z3 c0 c1 c5 HX1 HP1 HN1 HB1 ⊢
  clear hcv h hnd hlow hw hn hcls hwc hwf hv hb1 hkm hk hks
  go_enter Tryz.func30, Tryz.ntmps30
  go_wp2_with fail
  generalize w.alloc (.cells #[.pointer (some ⟨tp, 0, none⟩), .pointer (some ⟨sp, 0, none⟩), .int .i64 cv, .bool fn] 49) = W at *
  have hc0 := itself_any (unhide HP1) (unhide HCLS) fn (unhide HN1) (unhide HW) (unhide HWC) (unhide HWF)
  unfold plV at hc0
  rw [unhide HCV] at hc0
  refine hc0.mono ?_
  clear hc0
  rintro e W2 ⟨hb2, hor⟩
  have y0 := hcellB hb2 z0
  have y1 := hcellB hb2 z1
  have y2 := hcellB hb2 z2
  have y3 := hcellB hb2 z3
  have d0 := hcellB hb2 c0
  have d1 := hcellB hb2 c1
  have d5 := hcellB hb2 c5
  have HX2 := hide ((hb2.block _ (cell_ltK z0)).trans (unhide HX1))
  have HB2 := hide ((unhide HB1).trans (hb2.mono (unhide HB1).size))
  have HP2 := hide ((unhide HP1).keep hb2)
  have HN2 := hide (node_keep (unhide HN1) fun k hk => hb2.block k (Nat.lt_of_lt_of_le hk (unhide HP1).hM))
  have HKL := hide ((unhide HKL0).keep fun k hk => (unhide HB2).block k (Nat.lt_of_lt_of_le hk (unhide HM)))
  clear hb2 z0 z1 z2 z3 c0 c1 c5 HX1 HB1 HP1 HN1 HKL0
  rcases hor with ⟨hi, rfl⟩ | ⟨hi, tt, pp, rfl⟩
  rotate_left
  · have HI := hide hi
    clear hi
    go_wp2_with fail
    go_ret
    exact ⟨grown_of_below (unhide HB2), env, scope_below (unhide H) (unhide HB2), Nat.le_add_right _ _, Or.inr ⟨by rw [← unhide HR, if_pos (unhide HI)], _, _, rfl⟩⟩
  have HR2 := hide ((if_neg (by rw [hi]; decide)).symm.trans (unhide HR))
  clear hi HR
  go_wp2_with fail
  refine (alone_any W2).mono ?_
  rintro e W3 ⟨N', sp', b', rfl, g1, g2, g3, g4⟩
  have x0 := hcellB g4 y0
  have x1 := hcellB g4 y1
  have x2 := hcellB g4 y2
  have x3 := hcellB g4 y3
  have HX3 := hide ((g4.block _ (cell_ltK y0)).trans (unhide HX2))
  have f1 := hfroz (unhide HX3) 1
  have f3 := hfroz (unhide HX3) 3
  have HB3 := hide ((unhide HB2).trans (g4.mono (unhide HB2).size))
  have HLB := hide (show w.heap.size ≤ b' from Nat.le_trans (unhide HB2).size g2)
  have HP3 := hide (show PlA M W3 tp sp' b' N' T vc vf [[]] from ⟨(unhide HP2).tab.keep fun k hk => g4.block k (Nat.lt_of_lt_of_le hk (unhide HP2).hM), g3, Nat.le_trans (unhide HP2).hM g4.size, Nat.le_trans (unhide HP2).hM g2⟩)
  have HN3 := hide (node_keep (unhide HN2) fun k hk => g4.block k (Nat.lt_of_lt_of_le hk (unhide HP2).hM))
  clear g1 g2 g3 g4 y0 y1 y2 y3 d0 d1 d5
  have HP4 := hide (((unhide HP3).set (s := w.heap.size) (i := 1) (unhide HM) ⟨_, _, unhide HX3⟩ (.pointer (some ⟨sp', 0, none⟩))).set (s := w.heap.size) (i := 3) (unhide HM) ⟨_, _, hset (unhide HX3) (i := 1) _⟩ (.bool true))
  have HN4 := hide (node_set (node_set (unhide HN3) (s := w.heap.size) (i := 1) (unhide HM) (.pointer (some ⟨sp', 0, none⟩))) (s := w.heap.size) (i := 3) (unhide HM) (.bool true))
  have HB4 := hide (((unhide HB3).setCell (p := ⟨w.heap.size, 1, none⟩) (Nat.le_refl _) (.pointer (some ⟨sp', 0, none⟩))).setCell (p := ⟨w.heap.size, 3, none⟩) (Nat.le_refl _) (.bool true))
  go_wp2_with fail
  clear x0 x1 x2 x3 f1 f3
  generalize ((W3.setCell ⟨w.heap.size, 1, none⟩ (.pointer (some ⟨sp', 0, none⟩))).setCell ⟨w.heap.size, 3, none⟩ (.bool true)) = W4 at *
  have hc0 := body_any (hide (unhide IH cls true (unhide HCLS))) (unhide HP4) (unhide HN4) (unhide HKS) (fun k hk => ((unhide HW).kid (k := p) (by rw [unhide HKS]; exact List.mem_cons_self ..)).kid hk) (low_kids2 (unhide HLOW) (unhide HW) (q := q) (by rw [unhide HKS]; exact List.mem_cons_of_mem _ (List.mem_cons_self ..))) (by
    have := unhide HBD
    have := unhide HMK
    have := unhide HMT
    have := unhide HMP
    have := unhide HMQ
    simp only [ownN, List.headD_cons, List.length_nil]
    omega)
  unfold plV at hc0
  rw [unhide HCV] at hc0
  refine hc0.mono ?_
  clear hc0
  rintro e W5 ⟨hg5, hor⟩
  have HB5 := hide ((unhide HB4).grown hg5 (unhide HB4).size (fun k hk => by have := Option.some.inj hk; have := unhide HLB; omega))
  clear hg5
  rcases hor with ⟨hr, rfl⟩ | ⟨hr, tt, pp, rfl⟩
  · have HR3 := hide hr
    clear hr
    go_wp2_with fail
    go_ret
    exact ⟨grown_of_below (unhide HB5), env, scope_below (unhide H) (unhide HB5), Nat.le_add_right _ _, Or.inl ⟨by rw [← unhide HR2, if_pos (unhide HR3)], rfl⟩⟩
  · have HR3 := hide hr
    clear hr
    go_wp2_with fail
    go_ret
    exact ⟨grown_of_below (unhide HB5), env, scope_below (unhide H) (unhide HB5), Nat.le_add_right _ _, Or.inr ⟨by rw [← unhide HR2, if_neg (by rw [unhide HR3]; decide)], _, _, rfl⟩⟩

set_option maxRecDepth 100000 in
set_option maxHeartbeats 8000000 in
theorem node_method {M : Nat} {tp : Nat} {T : Tab} {vc vf : Value} {f : Nat} {cls : Option Nat} {fn : Bool} (IH : Hid (∀ (cls : Option Nat) (fn : Bool), ClsOk T.cs cls → NodeOk M tp T vc vf f cls fn)) (hcls : ClsOk T.cs cls) (hwc : ∀ c ∈ T.cs, Wf c) (hwf : ∀ g ∈ T.fns, ∃ p q, g.kids = p :: q) {w : World} {sp b N : Nat} {env : List (List ByteArray)} {bn : Nat} {t : Tree} (h : PlA M w tp sp b N T vc vf env) (hnd : NodeAt (fun k => k < M) w (.pointer (some ⟨bn, 0, none⟩)) t) (hlow : Lowt (f + 1) t) (hw : Wf t) (hn : ownN env + t.many ≤ 1000000) (hk : t.kind = 4) :
    Calls Tryz.prog 30 #[plV tp sp cls fn, .pointer (some ⟨bn, 0, none⟩)] w fun e w' => NdPost w sp b N t.many env (nodeP T (f + 1) cls fn env t) e w' := by
  have HR := hide (show (if itselfP T cls fn env t = false then none else if bodyOk (nodeP T f cls true) [[]] t = true then some env else none) = nodeP T (f + 1) cls fn env t by rw [nodeP]; simp [hk])
  generalize nodeP T (f + 1) cls fn env t = R at HR ⊢
  obtain ⟨ks, hv⟩ := node_view hnd
  have HLT : Hid (bn < w.heap.size) := Nat.lt_of_lt_of_le hv.lt h.hM
  have HKL0 := hide hv.kids
  obtain ⟨kg, kcap, rfl, hkm, _⟩ := hv.kids
  have HMK := hide (many_kids t)
  have HBD := hide hn
  have HLOW := hide hlow
  have HW := hide hw
  have HCLS := hide hcls
  have H := hide h
  have HM := hide h.hM
  have hb1 := (Below.refl w.heap.size w).alloc (Nat.le_refl _) (.cells #[.pointer (some ⟨tp, 0, none⟩), .pointer (some ⟨sp, 0, none⟩), .int .i64 (clsV cls), .bool fn] 49)
  have HX1 := hide (hnew w (.cells #[.pointer (some ⟨tp, 0, none⟩), .pointer (some ⟨sp, 0, none⟩), .int .i64 (clsV cls), .bool fn] 49))
  have HP1 := hide (h.keep hb1)
  have HN1 := hide (node_keep hnd fun k hk => hb1.block k (Nat.lt_of_lt_of_le hk h.hM))
  have c0 := hcellB hb1 hv.c0
  have c1 := hcellB hb1 hv.c1
  have c5 := hcellB hb1 hv.c5
  obtain ⟨z0, z1, z2, z3⟩ := box_cells (unhide HX1)
  have HWC := hide hwc
  have HWF := hide hwf
  have HB1 := hide hb1
  rw [hk] at c0
  obtain ⟨p, q, hks⟩ := hw.here.1.1 (by omega)
  have HKS := hide hks
  have HMP := hide (many_kids p)
  have HMQ := hide (many_kids q)
  have HMT := hide (show manyL t.kids = p.many + q.many by rw [hks]; simp [manyL])
  unfold plV
  obtain ⟨cv, hcv⟩ : ∃ cv, clsV cls = cv := ⟨_, rfl⟩
  have HCV := hide hcv
  simp only [hcv] at z0 z1 z2 z3 c0 c1 c5 HX1 HP1 HN1 HB1 ⊢
  clear hcv h hnd hlow hw hn hcls hwc hwf hv hb1 hkm hk hks
  go_enter Tryz.func30, Tryz.ntmps30
  go_wp2_with fail
  generalize w.alloc (.cells #[.pointer (some ⟨tp, 0, none⟩), .pointer (some ⟨sp, 0, none⟩), .int .i64 cv, .bool fn] 49) = W at *
  have hc0 := itself_any (unhide HP1) (unhide HCLS) fn (unhide HN1) (unhide HW) (unhide HWC) (unhide HWF)
  unfold plV at hc0
  rw [unhide HCV] at hc0
  refine hc0.mono ?_
  clear hc0
  rintro e W2 ⟨hb2, hor⟩
  have y0 := hcellB hb2 z0
  have y1 := hcellB hb2 z1
  have y2 := hcellB hb2 z2
  have y3 := hcellB hb2 z3
  have d0 := hcellB hb2 c0
  have d1 := hcellB hb2 c1
  have d5 := hcellB hb2 c5
  have HX2 := hide ((hb2.block _ (cell_ltK z0)).trans (unhide HX1))
  have HB2 := hide ((unhide HB1).trans (hb2.mono (unhide HB1).size))
  have HP2 := hide ((unhide HP1).keep hb2)
  have HN2 := hide (node_keep (unhide HN1) fun k hk => hb2.block k (Nat.lt_of_lt_of_le hk (unhide HP1).hM))
  have HKL := hide ((unhide HKL0).keep fun k hk => (unhide HB2).block k (Nat.lt_of_lt_of_le hk (unhide HM)))
  clear hb2 z0 z1 z2 z3 c0 c1 c5 HX1 HB1 HP1 HN1 HKL0
  rcases hor with ⟨hi, rfl⟩ | ⟨hi, tt, pp, rfl⟩
  rotate_left
  · have HI := hide hi
    clear hi
    go_wp2_with fail
    go_ret
    exact ⟨grown_of_below (unhide HB2), env, scope_below (unhide H) (unhide HB2), Nat.le_add_right _ _, Or.inr ⟨by rw [← unhide HR, if_pos (unhide HI)], _, _, rfl⟩⟩
  have HR2 := hide ((if_neg (by rw [hi]; decide)).symm.trans (unhide HR))
  clear hi HR
  go_wp2_with fail
  refine (alone_any W2).mono ?_
  rintro e W3 ⟨N', sp', b', rfl, g1, g2, g3, g4⟩
  have x0 := hcellB g4 y0
  have x1 := hcellB g4 y1
  have x2 := hcellB g4 y2
  have x3 := hcellB g4 y3
  have HX3 := hide ((g4.block _ (cell_ltK y0)).trans (unhide HX2))
  have f1 := hfroz (unhide HX3) 1
  have f3 := hfroz (unhide HX3) 3
  have HB3 := hide ((unhide HB2).trans (g4.mono (unhide HB2).size))
  have HLB := hide (show w.heap.size ≤ b' from Nat.le_trans (unhide HB2).size g2)
  have HP3 := hide (show PlA M W3 tp sp' b' N' T vc vf [[]] from ⟨(unhide HP2).tab.keep fun k hk => g4.block k (Nat.lt_of_lt_of_le hk (unhide HP2).hM), g3, Nat.le_trans (unhide HP2).hM g4.size, Nat.le_trans (unhide HP2).hM g2⟩)
  have HN3 := hide (node_keep (unhide HN2) fun k hk => g4.block k (Nat.lt_of_lt_of_le hk (unhide HP2).hM))
  clear g1 g2 g3 g4 y0 y1 y2 y3 d0 d1 d5
  have HP4 := hide (((unhide HP3).set (s := w.heap.size) (i := 1) (unhide HM) ⟨_, _, unhide HX3⟩ (.pointer (some ⟨sp', 0, none⟩))).set (s := w.heap.size) (i := 3) (unhide HM) ⟨_, _, hset (unhide HX3) (i := 1) _⟩ (.bool true))
  have HN4 := hide (node_set (node_set (unhide HN3) (s := w.heap.size) (i := 1) (unhide HM) (.pointer (some ⟨sp', 0, none⟩))) (s := w.heap.size) (i := 3) (unhide HM) (.bool true))
  have HB4 := hide (((unhide HB3).setCell (p := ⟨w.heap.size, 1, none⟩) (Nat.le_refl _) (.pointer (some ⟨sp', 0, none⟩))).setCell (p := ⟨w.heap.size, 3, none⟩) (Nat.le_refl _) (.bool true))
  go_wp2_with fail
  clear x0 x1 x2 x3 f1 f3
  generalize ((W3.setCell ⟨w.heap.size, 1, none⟩ (.pointer (some ⟨sp', 0, none⟩))).setCell ⟨w.heap.size, 3, none⟩ (.bool true)) = W4 at *
  have hc0 := body_any (hide (unhide IH cls true (unhide HCLS))) (unhide HP4) (unhide HN4) (unhide HKS) (fun k hk => ((unhide HW).kid (k := p) (by rw [unhide HKS]; exact List.mem_cons_self ..)).kid hk) (low_kids2 (unhide HLOW) (unhide HW) (q := q) (by rw [unhide HKS]; exact List.mem_cons_of_mem _ (List.mem_cons_self ..))) (by
    have := unhide HBD
    have := unhide HMK
    have := unhide HMT
    have := unhide HMP
    have := unhide HMQ
    simp only [ownN, List.headD_cons, List.length_nil]
    omega)
  unfold plV at hc0
  rw [unhide HCV] at hc0
  refine hc0.mono ?_
  clear hc0
  rintro e W5 ⟨hg5, hor⟩
  have HB5 := hide ((unhide HB4).grown hg5 (unhide HB4).size (fun k hk => by have := Option.some.inj hk; have := unhide HLB; omega))
  clear hg5
  rcases hor with ⟨hr, rfl⟩ | ⟨hr, tt, pp, rfl⟩
  · have HR3 := hide hr
    clear hr
    go_wp2_with fail
    go_ret
    exact ⟨grown_of_below (unhide HB5), env, scope_below (unhide H) (unhide HB5), Nat.le_add_right _ _, Or.inl ⟨by rw [← unhide HR2, if_pos (unhide HR3)], rfl⟩⟩
  · have HR3 := hide hr
    clear hr
    go_wp2_with fail
    go_ret
    exact ⟨grown_of_below (unhide HB5), env, scope_below (unhide H) (unhide HB5), Nat.le_add_right _ _, Or.inr ⟨by rw [← unhide HR2, if_neg (by rw [unhide HR3]; decide)], _, _, rfl⟩⟩

set_option maxRecDepth 100000 in
set_option maxHeartbeats 8000000 in
theorem node_lambda {M : Nat} {tp : Nat} {T : Tab} {vc vf : Value} {f : Nat} {cls : Option Nat} {fn : Bool} (IH : Hid (∀ (cls : Option Nat) (fn : Bool), ClsOk T.cs cls → NodeOk M tp T vc vf f cls fn)) (hcls : ClsOk T.cs cls) (hwc : ∀ c ∈ T.cs, Wf c) (hwf : ∀ g ∈ T.fns, ∃ p q, g.kids = p :: q) {w : World} {sp b N : Nat} {env : List (List ByteArray)} {bn : Nat} {t : Tree} (h : PlA M w tp sp b N T vc vf env) (hnd : NodeAt (fun k => k < M) w (.pointer (some ⟨bn, 0, none⟩)) t) (hlow : Lowt (f + 1) t) (hw : Wf t) (hn : ownN env + t.many ≤ 1000000) (hk : t.kind = 28) :
    Calls Tryz.prog 30 #[plV tp sp cls fn, .pointer (some ⟨bn, 0, none⟩)] w fun e w' => NdPost w sp b N t.many env (nodeP T (f + 1) cls fn env t) e w' := by
  have HR := hide (show (if itselfP T cls fn env t = false then none else if bodyOk (nodeP T f cls true) ([] :: env) t = true then some env else none) = nodeP T (f + 1) cls fn env t by rw [nodeP]; simp [hk])
  generalize nodeP T (f + 1) cls fn env t = R at HR ⊢
  obtain ⟨ks, hv⟩ := node_view hnd
  have HLT : Hid (bn < w.heap.size) := Nat.lt_of_lt_of_le hv.lt h.hM
  have HKL0 := hide hv.kids
  obtain ⟨kg, kcap, rfl, hkm, _⟩ := hv.kids
  have HMK := hide (many_kids t)
  have HBD := hide hn
  have HLOW := hide hlow
  have HW := hide hw
  have HCLS := hide hcls
  have H := hide h
  have HM := hide h.hM
  have hb1 := (Below.refl w.heap.size w).alloc (Nat.le_refl _) (.cells #[.pointer (some ⟨tp, 0, none⟩), .pointer (some ⟨sp, 0, none⟩), .int .i64 (clsV cls), .bool fn] 49)
  have HX1 := hide (hnew w (.cells #[.pointer (some ⟨tp, 0, none⟩), .pointer (some ⟨sp, 0, none⟩), .int .i64 (clsV cls), .bool fn] 49))
  have HP1 := hide (h.keep hb1)
  have HN1 := hide (node_keep hnd fun k hk => hb1.block k (Nat.lt_of_lt_of_le hk h.hM))
  have c0 := hcellB hb1 hv.c0
  have c1 := hcellB hb1 hv.c1
  have c5 := hcellB hb1 hv.c5
  obtain ⟨z0, z1, z2, z3⟩ := box_cells (unhide HX1)
  have HWC := hide hwc
  have HWF := hide hwf
  have HB1 := hide hb1
  rw [hk] at c0
  obtain ⟨p, q, hks⟩ := hw.here.1.1 (by omega)
  have HKS := hide hks
  have HMP := hide (many_kids p)
  have HMQ := hide (many_kids q)
  have HMT := hide (show manyL t.kids = p.many + q.many by rw [hks]; simp [manyL])
  unfold plV
  obtain ⟨cv, hcv⟩ : ∃ cv, clsV cls = cv := ⟨_, rfl⟩
  have HCV := hide hcv
  simp only [hcv] at z0 z1 z2 z3 c0 c1 c5 HX1 HP1 HN1 HB1 ⊢
  clear hcv h hnd hlow hw hn hcls hwc hwf hv hb1 hkm hk hks
  go_enter Tryz.func30, Tryz.ntmps30
  go_wp2_with fail
  generalize w.alloc (.cells #[.pointer (some ⟨tp, 0, none⟩), .pointer (some ⟨sp, 0, none⟩), .int .i64 cv, .bool fn] 49) = W at *
  have hc0 := itself_any (unhide HP1) (unhide HCLS) fn (unhide HN1) (unhide HW) (unhide HWC) (unhide HWF)
  unfold plV at hc0
  rw [unhide HCV] at hc0
  refine hc0.mono ?_
  clear hc0
  rintro e W2 ⟨hb2, hor⟩
  have y0 := hcellB hb2 z0
  have y1 := hcellB hb2 z1
  have y2 := hcellB hb2 z2
  have y3 := hcellB hb2 z3
  have d0 := hcellB hb2 c0
  have d1 := hcellB hb2 c1
  have d5 := hcellB hb2 c5
  have HX2 := hide ((hb2.block _ (cell_ltK z0)).trans (unhide HX1))
  have HB2 := hide ((unhide HB1).trans (hb2.mono (unhide HB1).size))
  have HP2 := hide ((unhide HP1).keep hb2)
  have HN2 := hide (node_keep (unhide HN1) fun k hk => hb2.block k (Nat.lt_of_lt_of_le hk (unhide HP1).hM))
  have HKL := hide ((unhide HKL0).keep fun k hk => (unhide HB2).block k (Nat.lt_of_lt_of_le hk (unhide HM)))
  clear hb2 z0 z1 z2 z3 c0 c1 c5 HX1 HB1 HP1 HN1 HKL0
  rcases hor with ⟨hi, rfl⟩ | ⟨hi, tt, pp, rfl⟩
  rotate_left
  · have HI := hide hi
    clear hi
    go_wp2_with fail
    go_ret
    exact ⟨grown_of_below (unhide HB2), env, scope_below (unhide H) (unhide HB2), Nat.le_add_right _ _, Or.inr ⟨by rw [← unhide HR, if_pos (unhide HI)], _, _, rfl⟩⟩
  have HR2 := hide ((if_neg (by rw [hi]; decide)).symm.trans (unhide HR))
  clear hi HR
  go_wp2_with fail
  have hc0 := inner_any (unhide HP2) cls fn
  unfold plV at hc0
  rw [unhide HCV] at hc0
  refine hc0.mono ?_
  clear hc0
  rintro e W3 ⟨sp', b', N', rfl, hp3, g2, g4⟩
  have x0 := hcellB g4 y0
  have x1 := hcellB g4 y1
  have x2 := hcellB g4 y2
  have x3 := hcellB g4 y3
  have HX3 := hide ((g4.block _ (cell_ltK y0)).trans (unhide HX2))
  have f0 := hfroz (unhide HX3) 0
  have f1 := hfroz (unhide HX3) 1
  have f2 := hfroz (unhide HX3) 2
  have f3 := hfroz (unhide HX3) 3
  have HB3 := hide ((unhide HB2).trans (g4.mono (unhide HB2).size))
  have HLB := hide (show w.heap.size ≤ b' from Nat.le_trans (unhide HB2).size g2)
  have HP3 := hide hp3
  have HN3 := hide (node_keep (unhide HN2) fun k hk => g4.block k (Nat.lt_of_lt_of_le hk (unhide HP2).hM))
  clear hp3 g2 g4 y0 y1 y2 y3 d0 d1 d5
  have HP4 := hide ((((((unhide HP3).set (s := w.heap.size) (i := 0) (unhide HM) ⟨_, _, unhide HX3⟩ (.pointer (some ⟨tp, 0, none⟩))).set (s := w.heap.size) (i := 1) (unhide HM) ⟨_, _, hset (unhide HX3) (i := 0) (.pointer (some ⟨tp, 0, none⟩))⟩ (.pointer (some ⟨sp', 0, none⟩))).set (s := w.heap.size) (i := 2) (unhide HM) ⟨_, _, hset (hset (unhide HX3) (i := 0) (.pointer (some ⟨tp, 0, none⟩))) (i := 1) (.pointer (some ⟨sp', 0, none⟩))⟩ (.int .i64 cv)).set (s := w.heap.size) (i := 3) (unhide HM) ⟨_, _, hset (hset (hset (unhide HX3) (i := 0) (.pointer (some ⟨tp, 0, none⟩))) (i := 1) (.pointer (some ⟨sp', 0, none⟩))) (i := 2) (.int .i64 cv)⟩ (.bool fn)))
  have HN4 := hide ((node_set (node_set (node_set (node_set (unhide HN3) (s := w.heap.size) (i := 0) (unhide HM) (.pointer (some ⟨tp, 0, none⟩))) (s := w.heap.size) (i := 1) (unhide HM) (.pointer (some ⟨sp', 0, none⟩))) (s := w.heap.size) (i := 2) (unhide HM) (.int .i64 cv)) (s := w.heap.size) (i := 3) (unhide HM) (.bool fn)))
  have HB4 := hide ((((((unhide HB3).setCell (p := ⟨w.heap.size, 0, none⟩) (Nat.le_refl _) (.pointer (some ⟨tp, 0, none⟩))).setCell (p := ⟨w.heap.size, 1, none⟩) (Nat.le_refl _) (.pointer (some ⟨sp', 0, none⟩))).setCell (p := ⟨w.heap.size, 2, none⟩) (Nat.le_refl _) (.int .i64 cv)).setCell (p := ⟨w.heap.size, 3, none⟩) (Nat.le_refl _) (.bool fn)))
  have HX4 := hide (hset (hset (hset (hset (unhide HX3) (i := 0) (.pointer (some ⟨tp, 0, none⟩))) (i := 1) (.pointer (some ⟨sp', 0, none⟩))) (i := 2) (.int .i64 cv)) (i := 3) (.bool fn))
  obtain ⟨W4, HE⟩ : ∃ W4, ((((W3.setCell ⟨w.heap.size, 0, none⟩ (.pointer (some ⟨tp, 0, none⟩))).setCell ⟨w.heap.size, 1, none⟩ (.pointer (some ⟨sp', 0, none⟩))).setCell ⟨w.heap.size, 2, none⟩ (.int .i64 cv)).setCell ⟨w.heap.size, 3, none⟩ (.bool fn)) = W4 := ⟨_, rfl⟩
  rw [HE] at HP4 HN4 HB4 HX4
  have HBX := hide (show W4.heap[w.heap.size]? = some (.cells #[.pointer (some ⟨tp, 0, none⟩), .pointer (some ⟨sp', 0, none⟩), .int .i64 cv, .bool fn] 49 (0, 0)) from unhide HX4)
  clear HX4
  obtain ⟨v0, v1, v2, v3⟩ := box_cells (unhide HBX)
  have u3 := hfroz (unhide HBX) 3
  have HP5 := hide ((unhide HP4).set (s := w.heap.size) (i := 3) (unhide HM) ⟨_, _, unhide HBX⟩ (.bool true))
  have HN5 := hide (node_set (unhide HN4) (s := w.heap.size) (i := 3) (unhide HM) (.bool true))
  have HB6 := hide ((unhide HB4).setCell (p := ⟨w.heap.size, 3, none⟩) (Nat.le_refl _) (.bool true))
  go_wp2_with (rw [HE])
  clear x0 x1 x2 x3 f0 f1 f2 f3 v0 v1 v2 v3 u3 HP4 HN4 HB4 HBX
  generalize W4.setCell ⟨w.heap.size, 3, none⟩ (.bool true) = W6 at *
  clear HE
  have hc0 := body_any (hide (unhide IH cls true (unhide HCLS))) (unhide HP5) (unhide HN5) (unhide HKS) (fun k hk => ((unhide HW).kid (k := p) (by rw [unhide HKS]; exact List.mem_cons_self ..)).kid hk) (low_kids2 (unhide HLOW) (unhide HW) (q := q) (by rw [unhide HKS]; exact List.mem_cons_of_mem _ (List.mem_cons_self ..))) (by
    have := unhide HBD
    have := unhide HMK
    have := unhide HMT
    have := unhide HMP
    have := unhide HMQ
    simp only [ownN, List.headD_cons, List.length_nil]
    omega)
  unfold plV at hc0
  rw [unhide HCV] at hc0
  refine hc0.mono ?_
  clear hc0
  rintro e W5 ⟨hg5, hor⟩
  have HB5 := hide ((unhide HB6).grown hg5 (unhide HB6).size (fun k hk => by have := Option.some.inj hk; have := unhide HLB; omega))
  clear hg5
  rcases hor with ⟨hr, rfl⟩ | ⟨hr, tt, pp, rfl⟩
  · have HR3 := hide hr
    clear hr
    go_wp2_with fail
    go_ret
    exact ⟨grown_of_below (unhide HB5), env, scope_below (unhide H) (unhide HB5), Nat.le_add_right _ _, Or.inl ⟨by rw [← unhide HR2, if_pos (unhide HR3)], rfl⟩⟩
  · have HR3 := hide hr
    clear hr
    go_wp2_with fail
    go_ret
    exact ⟨grown_of_below (unhide HB5), env, scope_below (unhide H) (unhide HB5), Nat.le_add_right _ _, Or.inr ⟨by rw [← unhide HR2, if_neg (by rw [unhide HR3]; decide)], _, _, rfl⟩⟩
end Go.Proofs.YtjcoobkpmpjpbaaGreatDoor

namespace Go.Proofs.YtjcoobkpmpjpbaaGreatDoor
open Go.RowKit Go.Maps
set_option linter.unusedSimpArgs false
set_option linter.unusedVariables false

set_option maxRecDepth 100000 in
set_option maxHeartbeats 8000000 in
theorem node_block {M : Nat} {tp : Nat} {T : Tab} {vc vf : Value} {f : Nat} {cls : Option Nat} {fn : Bool} (IH : Hid (∀ (cls : Option Nat) (fn : Bool), ClsOk T.cs cls → NodeOk M tp T vc vf f cls fn)) (hcls : ClsOk T.cs cls) (hwc : ∀ c ∈ T.cs, Wf c) (hwf : ∀ g ∈ T.fns, ∃ p q, g.kids = p :: q) {w : World} {sp b N : Nat} {env : List (List ByteArray)} {bn : Nat} {t : Tree} (h : PlA M w tp sp b N T vc vf env) (hnd : NodeAt (fun k => k < M) w (.pointer (some ⟨bn, 0, none⟩)) t) (hlow : Lowt (f + 1) t) (hw : Wf t) (hn : ownN env + t.many ≤ 1000000) (hk : t.kind = 7) :
    Calls Tryz.prog 30 #[plV tp sp cls fn, .pointer (some ⟨bn, 0, none⟩)] w fun e w' => NdPost w sp b N t.many env (nodeP T (f + 1) cls fn env t) e w' := by
  have HR := hide (show (if itselfP T cls fn env t = false then none else if (allP (nodeP T f cls fn) ([] :: env) t.kids).isSome = true then some env else none) = nodeP T (f + 1) cls fn env t by rw [nodeP]; simp [hk])
  generalize nodeP T (f + 1) cls fn env t = R at HR ⊢
  obtain ⟨ks, hv⟩ := node_view hnd
  have HLT : Hid (bn < w.heap.size) := Nat.lt_of_lt_of_le hv.lt h.hM
  have HKL0 := hide hv.kids
  obtain ⟨kg, kcap, rfl, hkm, _⟩ := hv.kids
  have HMK := hide (many_kids t)
  have HBD := hide hn
  have HLOW := hide hlow
  have HW := hide hw
  have HCLS := hide hcls
  have H := hide h
  have HM := hide h.hM
  have hb1 := (Below.refl w.heap.size w).alloc (Nat.le_refl _) (.cells #[.pointer (some ⟨tp, 0, none⟩), .pointer (some ⟨sp, 0, none⟩), .int .i64 (clsV cls), .bool fn] 49)
  have HX1 := hide (hnew w (.cells #[.pointer (some ⟨tp, 0, none⟩), .pointer (some ⟨sp, 0, none⟩), .int .i64 (clsV cls), .bool fn] 49))
  have HP1 := hide (h.keep hb1)
  have HN1 := hide (node_keep hnd fun k hk => hb1.block k (Nat.lt_of_lt_of_le hk h.hM))
  have c0 := hcellB hb1 hv.c0
  have c1 := hcellB hb1 hv.c1
  have c5 := hcellB hb1 hv.c5
  obtain ⟨z0, z1, z2, z3⟩ := box_cells (unhide HX1)
  have HWC := hide hwc
  have HWF := hide hwf
  have HB1 := hide hb1
  rw [hk] at c0
  unfold plV
  obtain ⟨cv, hcv⟩ : ∃ cv, clsV cls = cv := ⟨_, rfl⟩
  have HCV := hide hcv
  simp only [hcv] at z0 z1 z2 z3 c0 c1 c5 HX1 HP1 HN1 HB1 ⊢
  clear hcv h hnd hlow hw hn hcls hwc hwf hv hb1 hkm hk 
  go_enter Tryz.func30, Tryz.ntmps30
  go_wp2_with fail
  generalize w.alloc (.cells #[.pointer (some ⟨tp, 0, none⟩), .pointer (some ⟨sp, 0, none⟩), .int .i64 cv, .bool fn] 49) = W at *
  have hc0 := itself_any (unhide HP1) (unhide HCLS) fn (unhide HN1) (unhide HW) (unhide HWC) (unhide HWF)
  unfold plV at hc0
  rw [unhide HCV] at hc0
  refine hc0.mono ?_
  clear hc0
  rintro e W2 ⟨hb2, hor⟩
  have y0 := hcellB hb2 z0
  have y1 := hcellB hb2 z1
  have y2 := hcellB hb2 z2
  have y3 := hcellB hb2 z3
  have d0 := hcellB hb2 c0
  have d1 := hcellB hb2 c1
  have d5 := hcellB hb2 c5
  have HX2 := hide ((hb2.block _ (cell_ltK z0)).trans (unhide HX1))
  have HB2 := hide ((unhide HB1).trans (hb2.mono (unhide HB1).size))
  have HP2 := hide ((unhide HP1).keep hb2)
  have HN2 := hide (node_keep (unhide HN1) fun k hk => hb2.block k (Nat.lt_of_lt_of_le hk (unhide HP1).hM))
  have HKL := hide ((unhide HKL0).keep fun k hk => (unhide HB2).block k (Nat.lt_of_lt_of_le hk (unhide HM)))
  clear hb2 z0 z1 z2 z3 c0 c1 c5 HX1 HB1 HP1 HN1 HKL0
  rcases hor with ⟨hi, rfl⟩ | ⟨hi, tt, pp, rfl⟩
  rotate_left
  · have HI := hide hi
    clear hi
    go_wp2_with fail
    go_ret
    exact ⟨grown_of_below (unhide HB2), env, scope_below (unhide H) (unhide HB2), Nat.le_add_right _ _, Or.inr ⟨by rw [← unhide HR, if_pos (unhide HI)], _, _, rfl⟩⟩
  have HR2 := hide ((if_neg (by rw [hi]; decide)).symm.trans (unhide HR))
  clear hi HR
  have entL : ∀ (sp' : Nat) (w : World), Sem.run Tryz.prog (callFunc 15 #[.agg #[.pointer (some ⟨tp, 0, none⟩), .pointer (some ⟨sp', 0, none⟩), .int .i64 cv, .bool fn], .slice kg t.kids.length kcap]) w = .ok (.enter 15 #[.agg #[.pointer (some ⟨tp, 0, none⟩), .pointer (some ⟨sp', 0, none⟩), .int .i64 cv, .bool fn], .slice kg t.kids.length kcap]) w := fun _ _ => by kernel_rfl
  have entI : ∀ (w : World), Sem.run Tryz.prog (callFunc 46 #[.agg #[.pointer (some ⟨tp, 0, none⟩), .pointer (some ⟨sp, 0, none⟩), .int .i64 cv, .bool fn]]) w = .ok (.enter 46 #[.agg #[.pointer (some ⟨tp, 0, none⟩), .pointer (some ⟨sp, 0, none⟩), .int .i64 cv, .bool fn]]) w := fun _ => by kernel_rfl
  go_wp2_with fail
  refine wp_region_held_drew (S := fun w' => w'.cell? ⟨w.heap.size, 0, none⟩ = some (.pointer (some ⟨tp, 0, none⟩)) ∧ w'.cell? ⟨w.heap.size, 1, none⟩ = some (.pointer (some ⟨sp, 0, none⟩)) ∧ w'.cell? ⟨w.heap.size, 2, none⟩ = some (.int .i64 cv) ∧ w'.cell? ⟨w.heap.size, 3, none⟩ = some (.bool fn) ∧ w'.cell? ⟨bn, 5, none⟩ = some (.slice kg t.kids.length kcap)) (by kernel_rfl) ⟨y0, y1, y2, y3, d5⟩ (fun hHeld => ?_)
  refine wpAnyH_take (i := 0) (oi := { dst := some 52, op := _, type := _, pos := _, after := _, guard := _ }) (v := ?_) rfl (by kernel_rfl) (by kernel_rfl) (by kernel_rfl) (fun _ _ _ h => h) (Or.inl ⟨by rfl, ?_⟩) (by assumption) ?_
  case refine_2 =>
    intro w hSw
    try dsimp only at hSw
    go_simp
    try with_reducible rfl
  simp only [Act.put, List.setIfInBounds_toArray, List.set_cons_zero, List.set_cons_succ]
  refine wpAnyH_take (i := 2) (oi := { dst := some 54, op := _, type := _, pos := _, after := _, guard := _ }) (v := ?_) rfl (by kernel_rfl) (by kernel_rfl) (by kernel_rfl) (fun _ _ _ h => h) (Or.inl ⟨by rfl, ?_⟩) (by assumption) ?_
  case refine_2 =>
    intro w hSw
    try dsimp only at hSw
    go_simp
    try with_reducible rfl
  simp only [Act.put, List.setIfInBounds_toArray, List.set_cons_zero, List.set_cons_succ]
  refine wpAnyH_take (i := 3) (oi := { dst := some 55, op := _, type := _, pos := _, after := _, guard := _ }) (v := ?_) rfl (by kernel_rfl) (by kernel_rfl) (by kernel_rfl) (fun _ _ _ h => h) (Or.inl ⟨by rfl, ?_⟩) (by assumption) ?_
  case refine_2 =>
    intro w hSw
    try dsimp only at hSw
    go_simp
    try with_reducible rfl
  simp only [Act.put, List.setIfInBounds_toArray, List.set_cons_zero, List.set_cons_succ]
  refine wpAnyH_take (i := 4) (oi := { dst := some 56, op := _, type := _, pos := _, after := _, guard := _ }) (v := ?_) rfl (by kernel_rfl) (by kernel_rfl) (by kernel_rfl) (fun _ _ _ h => h) (Or.inl ⟨by rfl, ?_⟩) (by assumption) ?_
  case refine_2 =>
    intro w hSw
    try dsimp only at hSw
    go_simp
    try with_reducible rfl
  simp only [Act.put, List.setIfInBounds_toArray, List.set_cons_zero, List.set_cons_succ]
  refine wpAnyH_take (i := 5) (oi := { dst := some 57, op := _, type := _, pos := _, after := _, guard := _ }) (v := ?_) rfl (by kernel_rfl) (by kernel_rfl) (by kernel_rfl) (fun _ _ _ h => h) (Or.inl ⟨by rfl, ?_⟩) (by assumption) ?_
  case refine_2 =>
    intro w hSw
    try dsimp only at hSw
    go_simp
    try with_reducible rfl
  simp only [Act.put, List.setIfInBounds_toArray, List.set_cons_zero, List.set_cons_succ]
  have hc0 := inner_any (w := W2.drew) (unhide HP2).drew cls fn
  unfold plV at hc0
  rw [unhide HCV] at hc0
  refine wpAnyH_ready (rs := [1]) (by kernel_rfl) (by simp) ?_
  refine AllReadyH.cons (o := { dst := some 53, op := _, type := _, pos := _, after := _, guard := _ }) rfl (fun K hK => ?_) AllReadyH.nil
  refine step_enterG (by kernel_rfl) (by simp [Act.eval, entI, go_sem]) (hc0.mono ?_)
  rintro e W3 ⟨sp', b', N', rfl, hp3, g2, g4⟩
  have g4' : Below W2.heap.size W2 W3 := ⟨g4.os, g4.tape, g4.output, g4.size, g4.block⟩
  have x0y := hcellB g4' y0
  have x1y := hcellB g4' y1
  have x2y := hcellB g4' y2
  have x3y := hcellB g4' y3
  have x5d := hcellB g4' d5
  have HB3 := hide ((unhide HB2).trans (g4'.mono (unhide HB2).size))
  have HLB := hide (show w.heap.size ≤ b' from Nat.le_trans (unhide HB2).size g2)
  have HP3 := hide hp3
  have HNM := hide hp3.scope.own
  have HKL3 := hide ((unhide HKL).keep fun k hk => g4'.block k (Nat.lt_of_lt_of_le hk (unhide HP2).hM))
  clear hp3 g2 g4 g4' hc0 y0 y1 y2 y3 d0 d1 d5
  refine hK.out _ _ ⟨x0y, x1y, x2y, x3y, x5d⟩ (fun hHeld1 => ?_)
  clear hK K
  simp only [Act.put, List.setIfInBounds_toArray, List.set_cons_zero, List.set_cons_succ]
  have hc0 := all_any (hide (unhide IH cls fn (unhide HCLS))) (unhide HP3) (unhide HKL3) (low_kids (unhide HLOW) (unhide HW)) (by
    have := unhide HBD
    have := unhide HMK
    simp only [ownN, List.headD_cons, List.length_nil]
    omega)
  unfold plV at hc0
  rw [unhide HCV] at hc0
  refine wpAnyH_ready (rs := [6]) (by kernel_rfl) (by simp) ?_
  refine AllReadyH.cons (o := { dst := some 58, op := _, type := _, pos := _, after := _, guard := _ }) rfl (fun K hK => ?_) AllReadyH.nil
  refine step_enterG (by kernel_rfl) (by simp [Act.eval, entL, go_sem]) (hc0.mono ?_)
  rintro e W5 ⟨hg5, env5, hs5, _, hor⟩
  have hg5' : W3.grownBy W5 (some b') := ⟨hg5.os, hg5.tape, hg5.output, hg5.size, hg5.block⟩
  have qx0y := cell_grown (unhide HNM) hg5' x0y
  have qx1y := cell_grown (unhide HNM) hg5' x1y
  have qx2y := cell_grown (unhide HNM) hg5' x2y
  have qx3y := cell_grown (unhide HNM) hg5' x3y
  have qx5d := cell_grown (unhide HNM) hg5' x5d
  have HB5 := hide ((unhide HB3).grown hg5' (unhide HB3).size (fun k hk => by have := Option.some.inj hk; have := unhide HLB; omega))
  clear hg5 hg5' hs5 hc0 x0y x1y x2y x3y x5d
  rcases hor with ⟨hr, rfl⟩ | ⟨hr, tt, pp, rfl⟩
  · have HR3 := hide hr
    clear hr
    refine hK.out _ _ ⟨qx0y, qx1y, qx2y, qx3y, qx5d⟩ (fun hHeldC => ?_)
    clear hK K
    simp only [Act.put, List.setIfInBounds_toArray, List.set_cons_zero, List.set_cons_succ]
    refine wpAnyH_take (i := 7) (oi := { dst := some 4, op := _, type := _, pos := _, after := _, guard := _ }) (v := ?_) rfl (by kernel_rfl) (by kernel_rfl) (by kernel_rfl) (fun _ _ _ h => h) (Or.inl ⟨by rfl, ?_⟩) (by assumption) ?_
    case refine_2 =>
      intro w hSw
      try dsimp only at hSw
      go_simp
      try with_reducible rfl
    simp only [Act.put, List.setIfInBounds_toArray, List.set_cons_zero, List.set_cons_succ]
    refine wpAnyH_done (by kernel_rfl) ?_ _
    clear hHeldC
    go_wp2_with fail
    go_ret
    exact ⟨grown_of_below (unhide HB5), env, scope_below (unhide H) (unhide HB5), Nat.le_add_right _ _, Or.inl ⟨by rw [← unhide HR2, unhide HR3]; rfl, rfl⟩⟩
  · have HR3 := hide hr
    clear hr
    refine hK.out _ _ ⟨qx0y, qx1y, qx2y, qx3y, qx5d⟩ (fun hHeldC => ?_)
    clear hK K
    simp only [Act.put, List.setIfInBounds_toArray, List.set_cons_zero, List.set_cons_succ]
    refine wpAnyH_take (i := 7) (oi := { dst := some 4, op := _, type := _, pos := _, after := _, guard := _ }) (v := ?_) rfl (by kernel_rfl) (by kernel_rfl) (by kernel_rfl) (fun _ _ _ h => h) (Or.inl ⟨by rfl, ?_⟩) (by assumption) ?_
    case refine_2 =>
      intro w hSw
      try dsimp only at hSw
      go_simp
      try with_reducible rfl
    simp only [Act.put, List.setIfInBounds_toArray, List.set_cons_zero, List.set_cons_succ]
    refine wpAnyH_done (by kernel_rfl) ?_ _
    clear hHeldC
    go_wp2_with fail
    go_ret
    exact ⟨grown_of_below (unhide HB5), env, scope_below (unhide H) (unhide HB5), Nat.le_add_right _ _, Or.inr ⟨by rw [← unhide HR2, unhide HR3]; rfl, _, _, rfl⟩⟩
end Go.Proofs.YtjcoobkpmpjpbaaGreatDoor
