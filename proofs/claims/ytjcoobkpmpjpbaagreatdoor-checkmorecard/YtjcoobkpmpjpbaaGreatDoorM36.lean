/-
  A program with a name that is none: which error it is.
  The law's own fact: a program that is right, and one that is not.
  The law: what is right stays right with more behind it.
-/
import Derived.Test.YtjcoobkpmpjpbaaGreatDoorM35
namespace Go.Proofs.YtjcoobkpmpjpbaaGreatDoor
open Go.RowKit Go.Maps
set_option linter.unusedSimpArgs false
set_option linter.unusedVariables false

theorem wf_leafA : Wf leafA := Wf.plain (plain_of rfl) (by decide) (by decide) (fun _ h => by cases h)
theorem wf_printA : Wf printA := Wf.bare (plain_of rfl) (fun t h => by rcases List.mem_singleton.1 h with rfl; exact wf_leafA)
theorem wf_progB : Wf progB := Wf.bare (plain_of rfl) (fun t h => by rcases List.mem_singleton.1 h with rfl; exact wf_printA)
theorem fair_progB : Fair progB := ⟨wf_progB, by simp [progB, printA, leafA, nd, many_eq]⟩
theorem heads_B : headsRun (classesOf progB.kids) [] [] progB.kids = true := by kernel_rfl
theorem table_B : tableOk (classesOf progB.kids) := fun i c h => by
  have : (classesOf progB.kids) = [] := rfl
  rw [this] at h
  simp at h
/-- An error, and no table. -/
def BadPost (w : World) (n : Int) (e : Ending) (w' : World) : Prop := Below w.heap.size w w' ∧ ∃ a p, e = .returned (.tuple #[.pointer none, .iface 78 (.pointer (some ⟨a, 0, none⟩))]) ∧ w'.cell? ⟨a, 0, none⟩ = some (.int .i64 n) ∧ w'.cell? ⟨a, 1, none⟩ = some (.int .i64 p)

set_option maxRecDepth 100000 in
set_option maxHeartbeats 8000000 in
theorem checkB_any {M : Nat} {w : World} (hM : M ≤ w.heap.size) {b : Nat} (hn : NodeAt (fun k => k < M) w (.pointer (some ⟨b, 0, none⟩)) progB) :
    Calls Tryz.prog 6 #[.pointer (some ⟨b, 0, none⟩)] w fun e w' => BadPost w 5 e w' := by
  have hf := fair_progB
  obtain ⟨t, ht0⟩ : ∃ t, progB = t := ⟨_, rfl⟩
  have HT0 := hide ht0
  rw [ht0] at hn hf
  have HN := hide hn
  have HM := hide hM
  have HF := hide hf
  have HLL := hide (show t.kids.length ≤ 1000000 by have := hf.long; omega)
  have HWK := hide (fun k hk => hf.wf.kid (k := k) hk)
  have HCL := hide (show (classesOf t.kids).length ≤ 1000000 by have := hf.long; have := List.length_filter_le (fun t : Tree => t.kind == 2) t.kids; unfold classesOf; omega)
  have neq0 : ∀ X : World, (binOp BinOp.neq 28 .nilIface .nilIface).run Tryz.prog X = .ok (.bool false) X := fun _ => by kernel_rfl
  have neq1 : ∀ (tt : TypeId) (pp : Value) (X : World), (binOp BinOp.neq 28 (.iface tt pp) .nilIface).run Tryz.prog X = .ok (.bool true) X := fun _ _ _ => by kernel_rfl
  clear hM hn hf ht0
  go_enter Tryz.func6, Tryz.ntmps6
  go_wp2_with fail
  refine (headsOf_any (unhide HM) (unhide HN) (unhide HLL) (unhide HWK)).mono ?_
  rintro e W1 ⟨hb1, nb, vcl, vfn, rfl, hh1⟩
  have HB1 := hide hb1
  have HH1 := hide hh1
  have HN1 := hide (NodeAt.mono (node_keep (unhide HN) (w' := W1) fun k hk => hb1.block k (Nat.lt_of_lt_of_le hk (unhide HM))) (A' := fun k => k < W1.heap.size) fun k hk => Nat.lt_of_lt_of_le hk (Nat.le_trans (unhide HM) hb1.size))
  clear hb1 hh1
  go_wp2_with fail
  refine (checkHeads_any (unhide HH1) (Nat.le_refl _) (fun c hc => ((unhide HF).wf.kid (cls_mem hc).1).here.2.2) (unhide HN1) (unhide HCL) (unhide HLL) (unhide HWK)).mono ?_
  rintro e W2 ⟨hb2, hor⟩
  have HB2 := hide ((unhide HB1).trans (hb2.mono (unhide HB1).size))
  have HH2 := hide ((unhide HH1).keep (w' := W2) fun k hk => hb2.block k hk)
  have HN2 := hide (node_keep (unhide HN1) (w' := W2) fun k hk => hb2.block k hk)
  have HS2 := hide hb2.size
  clear hb2 HH1 HN1
  have hrB : headsRun (classesOf t.kids) [] [] t.kids = true := by rw [← unhide HT0]; exact heads_B
  rcases hor with ⟨hr, rfl⟩ | ⟨hr, tt, pp, rfl⟩
  · have hok := (headsRun_ok t.kids).1 hr
    have hend := end_of hok.1 hok.2.2
    have HOK := hide hok
    have HEND := hide hend
    clear hr hok hend hrB
    go_wp2_with fail
    refine (table_any (unhide HH2) (unhide HS2) (fun c hc => (unhide HF).wf.kid (cls_mem hc).1) (fun c hc => by have := ((unhide HF).kid (cls_mem hc).1).long; omega) (unhide HEND).2 (unhide HCL)).mono ?_
    rintro e W3 ⟨hb3, hor3⟩
    have HB3 := hide ((unhide HB2).trans (hb3.mono (unhide HB2).size))
    have HN3 := hide (NodeAt.mono (node_keep (unhide HN2) (w' := W3) fun k hk => hb3.block k (Nat.lt_of_lt_of_le hk (unhide HS2))) (A' := fun k => k < W3.heap.size) fun k hk => Nat.lt_of_lt_of_le hk (Nat.le_trans (unhide HS2) hb3.size))
    clear hb3 HN2 HH2
    have htB : tableOk (classesOf t.kids) := by rw [← unhide HT0]; exact table_B
    rcases hor3 with ⟨ht3, tp, vc, vf, rfl, htab⟩ | ⟨ht3, tt, pp, rfl⟩
    · have HTOK := hide ht3
      have HTAB := hide htab
      obtain ⟨ks, hv⟩ := node_view (unhide HN3)
      have c5 := hv.c5
      have HKL := hide hv.kids
      obtain ⟨kg, kcap, rfl, _, _⟩ := hv.kids
      have HBL := hide hv.lt
      clear ht3 htab hv htB
      have entO : ∀ X : World, (callFunc 14 #[.pointer (some ⟨tp, 0, none⟩)]).run Tryz.prog X = .ok (.enter 14 #[.pointer (some ⟨tp, 0, none⟩)]) X := fun X => enters_of Tryz.func14 (by kernel_rfl) rfl _ X
      go_wp2_with fail
      refine wp_region_held_drew (S := fun w' => w'.cell? ⟨b, 5, none⟩ = some (.slice kg t.kids.length kcap)) (by kernel_rfl) c5 (fun hHeld => ?_)
      refine wpAnyH_take (i := 0) (oi := { dst := some 28, op := _, type := _, pos := _, after := _, guard := _ }) (v := ?_) rfl (by kernel_rfl) (by kernel_rfl) (by kernel_rfl) (fun _ _ _ h => h) (Or.inl ⟨by rfl, ?_⟩) (by assumption) ?_
      case refine_2 =>
        intro w hSw
        try dsimp only at hSw
        go_simp
        try with_reducible rfl
      simp only [Act.put, List.setIfInBounds_toArray, List.set_cons_zero, List.set_cons_succ]
      refine wpAnyH_take (i := 2) (oi := { dst := some 30, op := _, type := _, pos := _, after := _, guard := _ }) (v := ?_) rfl (by kernel_rfl) (by kernel_rfl) (by kernel_rfl) (fun _ _ _ h => h) (Or.inl ⟨by rfl, ?_⟩) (by assumption) ?_
      case refine_2 =>
        intro w hSw
        try dsimp only at hSw
        go_simp
        try with_reducible rfl
      simp only [Act.put, List.setIfInBounds_toArray, List.set_cons_zero, List.set_cons_succ]
      refine wpAnyH_take (i := 3) (oi := { dst := some 31, op := _, type := _, pos := _, after := _, guard := _ }) (v := ?_) rfl (by kernel_rfl) (by kernel_rfl) (by kernel_rfl) (fun _ _ _ h => h) (Or.inl ⟨by rfl, ?_⟩) (by assumption) ?_
      case refine_2 =>
        intro w hSw
        try dsimp only at hSw
        go_simp
        try with_reducible rfl
      simp only [Act.put, List.setIfInBounds_toArray, List.set_cons_zero, List.set_cons_succ]
      refine wpAnyH_take (i := 4) (oi := { dst := some 32, op := _, type := _, pos := _, after := _, guard := _ }) (v := ?_) rfl (by kernel_rfl) (by kernel_rfl) (by kernel_rfl) (fun _ _ _ h => h) (Or.inl ⟨by rfl, ?_⟩) (by assumption) ?_
      case refine_2 =>
        intro w hSw
        try dsimp only at hSw
        go_simp
        try with_reducible rfl
      simp only [Act.put, List.setIfInBounds_toArray, List.set_cons_zero, List.set_cons_succ]
      refine wpAnyH_take (i := 5) (oi := { dst := some 33, op := _, type := _, pos := _, after := _, guard := _ }) (v := ?_) rfl (by kernel_rfl) (by kernel_rfl) (by kernel_rfl) (fun _ _ _ h => h) (Or.inl ⟨by rfl, ?_⟩) (by assumption) ?_
      case refine_2 =>
        intro w hSw
        try dsimp only at hSw
        go_simp
        try with_reducible rfl
      simp only [Act.put, List.setIfInBounds_toArray, List.set_cons_zero, List.set_cons_succ]
      refine wpAnyH_ready (rs := [1]) (by kernel_rfl) (by simp) ?_
      refine AllReadyH.cons (o := { dst := some 29, op := _, type := _, pos := _, after := _, guard := _ }) rfl (fun K hK => ?_) AllReadyH.nil
      refine step_enterG (by kernel_rfl) (by simp [Act.eval, entO, go_sem]) ((outerPlace_any (M := W3.heap.size) ((unhide HTAB).keep (w' := W3.drew) fun _ _ => rfl) (Nat.le_refl _)).mono ?_)
      rintro e W4 ⟨sp, sb, N, rfl, hpl, hsb, hb4⟩
      have HB4 := hide ((Below.drew (Below.refl W3.heap.size W3)).trans hb4)
      have d5 := cellB (unhide HB4) c5 (cell_ltK c5)
      have HPL := hide hpl
      have HSB := hide hsb
      clear hpl hsb hb4
      refine hK.out _ _ d5 (fun hHeld1 => ?_)
      clear hK K
      simp only [Act.put, List.setIfInBounds_toArray, List.set_cons_zero, List.set_cons_succ]
      have hk0 : t.kids = [printA] := by rw [← unhide HT0]; rfl
      have hcs : classesOf t.kids = [] := by rw [hk0]; rfl
      have hfs : fnsOf t.kids = [] := by rw [hk0]; rfl
      have hPL := unhide HPL
      rw [hcs, hfs] at hPL
      have hKL := (unhide HKL).keep (w' := W4) fun k hk => (unhide HB4).block k hk
      have hlen : t.kids.length = 1 := by rw [hk0]; rfl
      rw [hlen] at hKL
      rw [hk0] at hKL
      have hc0 := all_oneE (cls := none) (fn := false) hPL (t := printA) (hide (fun w2 bn hpl hnd => node_otherE (fun i hi => by cases hi) (fun c hc => by cases hc) (fun c hc => by cases hc) hpl hnd wf_printA (by kernel_rfl) (hide (fun w3 v hpl3 hl3 => all_oneE hpl3 (t := leafA) (hide (fun w4 bn4 hpl4 hnd4 => node_nameE (fun i hi => by cases hi) (fun c hc => by cases hc) (fun c hc => by cases hc) hpl4 hnd4 wf_leafA rfl (by kernel_rfl) (by decide) (by decide) (by decide) (by decide) (by decide) (by decide) (by decide) (by decide))) hl3)) (by decide) (by decide) (by decide) (by decide) (by decide) (by decide) (by decide) (by decide))) hKL
      unfold plV at hc0
      have hcv : clsV none = -1 := rfl
      rw [hcv] at hc0
      unfold plV
      rw [hcv, hlen]
      have entA : ∀ (v : Value) (X : World), (callFunc 15 #[.agg #[.pointer (some ⟨tp, 0, none⟩), .pointer (some ⟨sp, 0, none⟩), .int .i64 (-1), .bool false], v]).run Tryz.prog X = .ok (.enter 15 #[.agg #[.pointer (some ⟨tp, 0, none⟩), .pointer (some ⟨sp, 0, none⟩), .int .i64 (-1), .bool false], v]) X := fun v X => enters_of Tryz.func15 (by kernel_rfl) rfl _ X
      clear hcv hPL hKL hk0 hcs hfs
      rw [hlen] at d5 c5
      clear hlen
      refine wpAnyH_ready (rs := [6]) (by kernel_rfl) (by simp) ?_
      refine AllReadyH.cons (o := { dst := some 34, op := _, type := _, pos := _, after := _, guard := _ }) rfl (fun K hK => ?_) AllReadyH.nil
      refine step_enterG (by kernel_rfl) (by simp [Act.eval, entA, go_sem]) (hc0.mono ?_)
      clear hc0
      rintro e W5 ⟨hb5, a9, p9, rfl, q0, q1⟩
      have e5 := cellB hb5 d5 (cell_ltK d5)
      have HB5 := hide ((unhide HB3).trans (((unhide HB4).trans (hb5.mono (unhide HB4).size)).mono (unhide HB3).size))
      have HQ0 := hide q0
      have HQ1 := hide q1
      clear hb5 q0 q1
      refine hK.out _ _ e5 (fun hHeld6 => ?_)
      clear hK K
      simp only [Act.put, List.setIfInBounds_toArray, List.set_cons_zero, List.set_cons_succ]
      refine wpAnyH_take (i := 7) (oi := { dst := some 8, op := _, type := _, pos := _, after := _, guard := _ }) (v := ?_) rfl (by kernel_rfl) (by kernel_rfl) (by kernel_rfl) (fun _ _ _ h => h) (Or.inl ⟨by rfl, ?_⟩) (by assumption) ?_
      case refine_2 =>
        intro w hSw
        try dsimp only at hSw
        go_simp
        try with_reducible rfl
      simp only [Act.put, List.setIfInBounds_toArray, List.set_cons_zero, List.set_cons_succ]
      refine wpAnyH_done (by kernel_rfl) ?_ _
      clear hHeld hHeld1 hHeld6
      go_wp2_with fail
      go_ret2
      exact ⟨unhide HB5, a9, p9, rfl, unhide HQ0, unhide HQ1⟩
    · exact absurd htB ht3
  · rw [hrB] at hr
    cases hr
end Go.Proofs.YtjcoobkpmpjpbaaGreatDoor

namespace Go.Proofs.YtjcoobkpmpjpbaaGreatDoor
open Go.RowKit Go.Maps
set_option linter.unusedVariables false

theorem wf_varA : Wf varA := Wf.name (plain_of rfl) (by decide) (fun t h => by rcases List.mem_singleton.1 h with rfl; exact Wf.plain (plain_of rfl) (by decide) (by decide) (fun _ h => by cases h))
theorem wf_progA : Wf progA := Wf.bare (plain_of rfl) (fun t h => by
  rcases List.mem_cons.1 h with rfl | h
  · exact wf_varA
  · rcases List.mem_singleton.1 h with rfl
    exact wf_printA)
theorem fair_progA : Fair progA := ⟨wf_progA, by simp [progA, printA, varA, leafA, leafOne, nd, ndT, many_eq]⟩
theorem all_A (f : Nat) : (allP (nodeP (tabOf progA.kids) (f + 2) none false) [[]] progA.kids).isSome = true := by kernel_rfl
theorem ok_A : checkOk 3001 progA.kids := by
  have hc : classesOf progA.kids = [] := rfl
  have hf : fnsOf progA.kids = [] := rfl
  refine ⟨⟨?_, ?_, ?_⟩, ?_, all_A 2999⟩
  · rw [hc]; exact List.nodup_nil
  · rw [hf]; exact List.nodup_nil
  · rw [hc]; exact fun c h => by cases h
  · rw [hc]; exact fun i c h => by simp at h
theorem add_below {w w' : World} (h : Add w w') : Below w.heap.size w w' := ⟨h.os, h.tape, h.output, h.size, fun k hk => h.block k hk⟩
theorem below_add {w w' : World} (h : Below w.heap.size w w') : Add w w' := ⟨h.os, h.tape, h.output, h.size, fun k hk => h.block k hk⟩
theorem Tabs.more {w w' : World} (h : Tabs w w.heap.size) (ha : Below w.heap.size w w') : Tabs w' w'.heap.size := (h.keep fun j _ hl => ha.block j hl).up ha.size
theorem node_now {A : Nat → Prop} {w : World} {v : Value} {t : Tree} (h : NodeAt A w v t) : NodeAt (fun k => k < w.heap.size) w v t := NodeAt.mono (NodeAt.lt t v h) fun _ h => h.2
theorem node_later {w w' : World} {v : Value} {t : Tree} (h : NodeAt (fun k => k < w.heap.size) w v t) (hb : Below w.heap.size w w') : NodeAt (fun k => k < w'.heap.size) w' v t := NodeAt.mono (node_keep h fun k hk => hb.block k hk) fun k hk => Nat.lt_of_lt_of_le hk hb.size
theorem read_some {lo : Nat} {s : ByteArray} {e : Ending} {w' : World} {t : Tree} (h : ReadIs lo s e w') (hp : ∀ v, parseT s v = some t) : ∃ b, e = .returned (.tuple #[.pointer (some ⟨b, 0, none⟩), .bool true]) ∧ NodeAt (fun k => k < w'.heap.size) w' (.pointer (some ⟨b, 0, none⟩)) t := by
  rcases h with ⟨t', b, h1, h2, h3⟩ | ⟨h1, _⟩
  · rw [hp] at h1
    cases h1
    exact ⟨b, h2, node_now h3⟩
  · rw [hp] at h1
    cases h1

set_option maxRecDepth 100000 in
set_option maxHeartbeats 8000000 in
theorem checked_any {w : World} (tabs : Tabs w w.heap.size) (hT : ErrT w) : Calls Tryz.prog 5 #[] w fun e w' => e = .returned (.bool true) ∧ Below w.heap.size w w' := by
  have eq0 : ∀ X : World, (binOp BinOp.eql 28 .nilIface .nilIface).run Tryz.prog X = .ok (.bool true) X := fun _ => by kernel_rfl
  have HT := hide tabs
  have HE := hide hT
  clear tabs hT
  go_enter Tryz.func5, Tryz.ntmps5
  go_wp2_with fail
  refine (read_any (unhide HT) litA (by decide)).mono ?_
  rintro e W1 ⟨hr1, ha1⟩
  obtain ⟨b1, rfl, hn1⟩ := read_some hr1 parseT_A
  have HB1 := hide (add_below ha1)
  have HT1 := hide ((unhide HT).more (add_below ha1))
  have HN1 := hide hn1
  clear hr1 ha1 hn1
  go_wp2_with fail
  refine (read_any (unhide HT1) litB (by decide)).mono ?_
  rintro e W2 ⟨hr2, ha2⟩
  obtain ⟨b2, rfl, hn2⟩ := read_some hr2 parseT_B
  have HB2 := hide ((unhide HB1).trans ((add_below ha2).mono (unhide HB1).size))
  have HN12 := hide (node_later (unhide HN1) (add_below ha2))
  have HN2 := hide hn2
  clear hr2 ha2 hn2 HN1
  go_wp2_with fail
  refine (check_any (Nat.le_refl _) (unhide HN12) fair_progA).mono ?_
  rintro e W3 ⟨hb3, hor⟩
  rcases hor with ⟨_, M', tp, vc, vf, hM', rfl, htab⟩ | ⟨hno, _⟩
  rotate_left
  · exact absurd ok_A hno
  have HB3 := hide ((unhide HB2).trans (hb3.mono (unhide HB2).size))
  have HN3 := hide (node_later (unhide HN2) hb3)
  clear hb3 htab hM' HN2
  go_wp2_with fail
  refine (checkB_any (Nat.le_refl _) (unhide HN3)).mono ?_
  rintro e W4 ⟨hb4, a9, p9, rfl, q0, q1⟩
  have HB4 := hide ((unhide HB3).trans (hb4.mono (unhide HB3).size))
  have HE4 := hide ((unhide HE).keep (unhide HB4))
  have HQ := hide (show ErrAt W4 (.iface 78 (.pointer (some ⟨a9, 0, none⟩))) 5 p9 from Or.inr (Or.inr ⟨a9, rfl, q0, q1⟩))
  clear hb4 q0 q1
  go_wp2_with fail
  refine (tell_any (unhide HQ) (unhide HE4)).mono ?_
  rintro e W5 ⟨rfl, hb5⟩
  have HB5 := hide ((unhide HB4).trans (hb5.mono (unhide HB4).size))
  clear hb5
  go_wp2_with fail
  go_ret
  exact ⟨rfl, unhide HB5⟩
end Go.Proofs.YtjcoobkpmpjpbaaGreatDoor

namespace Go.Proofs.YtjcoobkpmpjpbaaGreatDoor
open Go.RowKit Go.Maps
set_option linter.unusedSimpArgs false
set_option linter.unusedVariables false

theorem parseT_read {s : ByteArray} {v : Value} {t : Tree} (h : parseT s v = some t) : ∃ S, readP s v = .inr (t, S) := by
  unfold parseT at h
  split at h
  · cases h
  · split at h
    · cases h
    · rename_i x hx
      split at h
      · cases h
      · cases h
        exact ⟨x.2, hx⟩
theorem up_same : ∀ (t t' : Tree), UpT 0 t t' → t' = t := by
  refine tree_ind _ fun t ih t' h => ?_
  rw [UpT_iff] at h
  obtain ⟨h1, h2, h3, h4, h5, _, h7, h8⟩ := h
  obtain ⟨k, tx, un, n, ln, kids⟩ := t
  obtain ⟨k', tx', un', n', ln', kids'⟩ := t'
  simp only at h1 h2 h3 h4 h5 h7 h8 ih
  subst h1 h2 h3 h4
  have e5 : ln' = ln := h5
  subst e5
  have : kids' = kids := by
    apply List.ext_getElem h7
    intro i q1 q2
    exact ih _ (List.getElem_mem q2) _ (h8 i q2 q1)
  rw [this]
/-- What is read does not hang on where the reader lies. -/
theorem readP_v {s : ByteArray} (hs : s.size ≤ 3000) {v : Value} (v' : Value) {t : Tree} {S : LS} (h : readP s v = .inr (t, S)) : ∃ S', readP s v' = .inr (t, S') := by
  have := readP_sh (k := 0) (s := s) (s' := s) ⟨rfl, fun _ _ _ => rfl, fun _ _ => rfl⟩ hs (fun p _ hp => absurd hp (Nat.not_lt_zero p)) v v'
  rw [h] at this
  cases h2 : readP s v' with
  | inl f => rw [h2] at this; exact this.elim
  | inr x =>
    rw [h2] at this
    have hu : UpT 0 t x.1 := this.1
    refine ⟨x.2, ?_⟩
    rw [← up_same _ _ hu]
theorem fair_read {s : ByteArray} (hs : s.size ≤ 3000) {v : Value} {t : Tree} {S : LS} (h : readP s v = .inr (t, S)) : Fair t := ⟨readP_wf h, readP_many hs h⟩
theorem more_size : more.size = 25 := rfl

set_option maxRecDepth 100000 in
set_option maxHeartbeats 16000000 in
theorem more_any {w : World} (tabs : Tabs w w.heap.size) (hT : ErrT w) (s : ByteArray) (hmax : s.size ≤ 9223372036854775807) : Calls Tryz.prog 3 #[.string s] w fun e w' => e = .returned (.bool true) ∧ Below w.heap.size w w' := by
  have eq0 : ∀ X : World, (binOp BinOp.eql 28 .nilIface .nilIface).run Tryz.prog X = .ok (.bool true) X := fun _ => by kernel_rfl
  have neq0 : ∀ X : World, (binOp BinOp.neq 28 .nilIface .nilIface).run Tryz.prog X = .ok (.bool false) X := fun _ => by kernel_rfl
  have neq1 : ∀ (tt : TypeId) (pp : Value) (X : World), (binOp BinOp.neq 28 (.iface tt pp) .nilIface).run Tryz.prog X = .ok (.bool true) X := fun _ _ _ => by kernel_rfl
  have eqP : ∀ (a : Addr) (X : World), (binOp BinOp.eql 26 (.pointer (some a)) (.pointer none)).run Tryz.prog X = .ok (.bool false) X := fun _ _ => by kernel_rfl
  have neqP : ∀ (a : Addr) (X : World), (binOp BinOp.neq 26 (.pointer (some a)) (.pointer none)).run Tryz.prog X = .ok (.bool true) X := fun _ _ => by kernel_rfl
  have HT := hide tabs
  have HE := hide hT
  clear tabs hT
  go_enter Tryz.func3, Tryz.ntmps3
  go_wp2_with fail
  refine (read_any (unhide HT) s hmax).mono ?_
  rintro e W1 ⟨hr1, ha1⟩
  have HB1 := hide (add_below ha1)
  have HT1 := hide ((unhide HT).more (add_below ha1))
  have HE1 := hide ((unhide HE).keep (add_below ha1))
  clear ha1
  rcases hr1 with ⟨t, b, hp, rfl, hn1⟩ | ⟨_, rfl⟩
  · have HN1 := hide (node_now hn1)
    have HP := hide hp
    clear hn1 hp
    go_wp2_with fail
    refine (checked_any (unhide HT1) (unhide HE1)).mono ?_
    rintro e W2 ⟨rfl, hb2⟩
    have HB2 := hide ((unhide HB1).trans (hb2.mono (unhide HB1).size))
    have HT2 := hide ((unhide HT1).more hb2)
    have HE2 := hide ((unhide HE1).keep hb2)
    have HN2 := hide (node_later (unhide HN1) hb2)
    clear hb2 HN1 HT1 HE1
    by_cases hbig : 2900 < s.size
    · have b1 : decide ((2900 : Int) < (s.size : Int)) = true := by simp; omega
      go_wp2_with fail
      refine (checked_any (unhide HT2) (unhide HE2)).mono ?_
      rintro e W3 ⟨rfl, hb3⟩
      have HB3 := hide ((unhide HB2).trans (hb3.mono (unhide HB2).size))
      clear hb3
      go_wp2_with fail
      go_ret
      exact ⟨rfl, unhide HB3⟩
    · have b1 : decide ((2900 : Int) < (s.size : Int)) = false := by simp; omega
      have hs29 : s.size ≤ 2900 := by omega
      obtain ⟨S, hrd⟩ := parseT_read (unhide HP)
      have HRD := hide hrd
      have HS29 := hide hs29
      have hfit : ¬ 9223372036854775807 < s.size + 25 := by omega
      have hfit2 : s.size + 25 ≤ 9223372036854775807 := by omega
      clear hrd
      go_wp2_with fail
      refine (check_any (Nat.le_refl _) (unhide HN2) (fair_read (by have := unhide HS29; omega) (unhide HRD))).mono ?_
      rintro e W3 ⟨hb3, hor⟩
      have HB3 := hide ((unhide HB2).trans (hb3.mono (unhide HB2).size))
      have HT3 := hide ((unhide HT2).more hb3)
      have HE3 := hide ((unhide HE2).keep hb3)
      clear hb3 HT2 HE2 HN2
      rcases hor with ⟨hok, M', tp, vc, vf, hM', rfl, htab⟩ | ⟨_, tt, pp, rfl⟩
      · have HOK := hide hok
        have HM' := hide hM'
        have HTAB := hide htab
        clear hok hM' htab
        have hfc := tabFn_any (unhide HTAB) zzFn
        cases hfn : firstOf (fnsOf t.kids) zzFn with
        | some i =>
          rw [show firstOf (tabOf t.kids).fns zzFn = some i from hfn] at hfc
          have hcv : clsV (some i) = (i : Int) := rfl
          rw [hcv] at hfc
          have hge : (0 : Int) ≤ (i : Int) := by omega
          clear hcv
          go_wp2_with fail
          refine hfc.mono ?_
          clear hfc
          rintro e W4 ⟨rfl, hb4⟩
          have HB4 := hide ((unhide HB3).trans (hb4.mono (unhide HB3).size))
          clear hb4
          go_wp2_with fail
          go_ret
          exact ⟨rfl, unhide HB4⟩
        | none =>
          rw [show firstOf (tabOf t.kids).fns zzFn = none from hfn] at hfc
          have hcv : clsV none = -1 := rfl
          rw [hcv] at hfc
          have HFN := hide hfn
          clear hfn hcv
          go_wp2_with fail
          refine hfc.mono ?_
          clear hfc
          rintro e W4 ⟨rfl, hb4⟩
          have HB4 := hide ((unhide HB3).trans (hb4.mono (unhide HB3).size))
          have HTAB4 := hide ((unhide HTAB).keep (w' := W4) fun k hk => hb4.block k (Nat.lt_of_lt_of_le hk (unhide HM')))
          have HM4 := hide (Nat.le_trans (unhide HM') hb4.size)
          have HT4 := hide ((unhide HT3).more hb4)
          have HE4 := hide ((unhide HE3).keep hb4)
          clear hb4 HTAB HM' HT3 HE3
          have hcc := tabClass_any (unhide HTAB4) (unhide HM4) zzClass
          cases hcl : firstOf (classesOf t.kids) zzClass with
          | some i =>
            rw [show firstOf (tabOf t.kids).cs zzClass = some i from hcl] at hcc
            have hcv : clsV (some i) = (i : Int) := rfl
            rw [hcv] at hcc
            have hge : (0 : Int) ≤ (i : Int) := by omega
            clear hcv hcl
            go_wp2_with fail
            refine hcc.mono ?_
            clear hcc
            rintro e W5 ⟨rfl, hb5⟩
            have HB5 := hide ((unhide HB4).trans (hb5.mono (unhide HB4).size))
            clear hb5
            go_wp2_with fail
            go_ret
            exact ⟨rfl, unhide HB5⟩
          | none =>
            rw [show firstOf (tabOf t.kids).cs zzClass = none from hcl] at hcc
            have hcv : clsV none = -1 := rfl
            rw [hcv] at hcc
            have HCL := hide hcl
            clear hcl hcv
            go_wp2_with fail
            refine hcc.mono ?_
            clear hcc
            rintro e W5 ⟨rfl, hb5⟩
            have HB5 := hide ((unhide HB4).trans (hb5.mono (unhide HB4).size))
            have HTAB5 := hide ((unhide HTAB4).keep (w' := W5) fun k hk => hb5.block k (Nat.lt_of_lt_of_le hk (unhide HM4)))
            have HM5 := hide (Nat.le_trans (unhide HM4) hb5.size)
            have HT5 := hide ((unhide HT4).more hb5)
            have HE5 := hide ((unhide HE4).keep hb5)
            clear hb5 HTAB4 HM4 HT4 HE4
            go_wp2_with fail
            refine (parse_short (unhide HT5) (s ++ more) (by rw [ByteArray.size_append, more_size]; have := unhide HS29; omega)).mono ?_
            rintro e W6 ⟨⟨vn, ve, rfl, hpp⟩, ha6⟩
            have hb6 := add_below ha6
            have HB6 := hide ((unhide HB5).trans (hb6.mono (unhide HB5).size))
            have HTAB6 := hide ((unhide HTAB5).keep (w' := W6) fun k hk => hb6.block k (Nat.lt_of_lt_of_le hk (unhide HM5)))
            have HM6 := hide (Nat.le_trans (unhide HM5) hb6.size)
            have HE6 := hide ((unhide HE5).keep hb6)
            obtain ⟨S2, hr2⟩ := readP_v (by have := unhide HS29; omega) (jval (W5.heap.size + 2) 1) (unhide HRD)
            obtain ⟨l0, l, T', hmr, _⟩ := readP_more (by have := unhide HS29; omega) _ hr2
            have HMR := hide hmr
            clear ha6 hb6 HTAB5 HM5 HT5 HE5 hr2
            rcases hpp with ⟨h3, _⟩ | ⟨_, f, h1, _⟩ | ⟨_, t2, S3, h1, h2, rfl, rfl⟩ | ⟨_, t2, S3, h1, h2, h3, rfl⟩
            · rw [ByteArray.size_append, more_size] at h3
              have := unhide HS29
              omega
            · rw [hmr] at h1
              cases h1
            · clear hmr h1 h2
              go_wp2_with fail
              refine (tell_any (p := -1) (Or.inr (Or.inl ⟨rfl, rfl⟩)) (unhide HE6)).mono ?_
              rintro e W7 ⟨rfl, hb7⟩
              have HB7 := hide ((unhide HB6).trans (hb7.mono (unhide HB6).size))
              clear hb7
              go_wp2_with fail
              go_ret
              exact ⟨rfl, unhide HB7⟩
            · obtain ⟨b2, rfl⟩ := vNode_ptr h3
              rw [hmr] at h1
              cases h1
              have HN6 := hide (node_now h3)
              clear hmr h2 h3
              go_wp2_with fail
              refine (check_any (Nat.le_refl _) (unhide HN6) (fair_read (by rw [ByteArray.size_append, more_size]; have := unhide HS29; omega) (unhide HMR))).mono ?_
              rintro e W7 ⟨hb7, hor7⟩
              obtain ⟨ck1, ck2, ck3⟩ := check_more (f := 3000) (unhide HOK) (zf := fnTree l) (zc := classTree l) (p := nd 6 l []) (b := nd 7 l []) rfl rfl rfl rfl rfl rfl rfl (by show zzClass ≠ noName; decide) (unhide HFN) (unhide HCL)
              rcases hor7 with ⟨_, M7, tp7, vc7, vf7, hM7, rfl, htab7⟩ | ⟨hno, _⟩
              rotate_left
              · exact absurd ck1 hno
              have HB7 := hide ((unhide HB6).trans (hb7.mono (unhide HB6).size))
              have HTAB7 := hide ((unhide HTAB6).keep (w' := W7) fun k hk => hb7.block k (Nat.lt_of_lt_of_le hk (unhide HM6)))
              have HM7 := hide (Nat.le_trans (unhide HM6) hb7.size)
              have hf7 := tabFn_any (w := W7.drew) (htab7.keep fun _ _ => rfl) zzFn
              rw [show firstOf (tabOf (nd 1 l0 (t.kids ++ [fnTree l] ++ [classTree l])).kids).fns zzFn = some (fnsOf t.kids).length from ck2] at hf7
              have hcvf : clsV (some (fnsOf t.kids).length) = ((fnsOf t.kids).length : Int) := rfl
              rw [hcvf] at hf7
              have HU7 := hide htab7
              have HMU := hide hM7
              have HCK3 := hide ck3
              obtain ⟨gc, capc, rfl⟩ := (unhide HTAB7).form
              obtain ⟨gf, capf, rfl, _, _⟩ := (unhide HTAB7).fns
              have y0 : W7.cell? ⟨tp, 0, none⟩ = _ := hcell (unhide HTAB7).blk 0
              have y1 : W7.cell? ⟨tp, 1, none⟩ = _ := hcell (unhide HTAB7).blk 1
              have ef : (tabOf t.kids).fns.length = (fnsOf t.kids).length := rfl
              have ec : (tabOf t.kids).cs.length = (classesOf t.kids).length := rfl
              rw [ef] at y1
              rw [ec] at y0
              simp only [List.getElem?_toArray, List.getElem?_cons_zero, List.getElem?_cons_succ] at y0 y1
              obtain ⟨LF, hLF⟩ : ∃ LF, (fnsOf t.kids).length = LF := ⟨_, rfl⟩
              obtain ⟨LC, hLC⟩ : ∃ LC, (classesOf t.kids).length = LC := ⟨_, rfl⟩
              rw [hLF] at y1 hf7
              rw [hLC] at y0
              have HLC := hide hLC
              have entF : ∀ (a : Array Value) (X : World), (callFunc 7 a).run Tryz.prog X = .ok (.enter 7 a) X := fun a X => enters_of Tryz.func7 (by kernel_rfl) rfl a X
              have entC : ∀ (a : Array Value) (X : World), (callFunc 8 a).run Tryz.prog X = .ok (.enter 8 a) X := fun a X => enters_of Tryz.func8 (by kernel_rfl) rfl a X
              clear hb7 ck1 ck2 ck3 htab7 hM7 hcvf ef ec hLF hLC
              go_wp2_with fail
              refine wp_region_held_drew (S := fun w' => w'.cell? ⟨tp, 1, none⟩ = some (.slice gf LF capf) ∧ w'.cell? ⟨tp, 0, none⟩ = some (.slice gc LC capc)) (by kernel_rfl) ⟨y1, y0⟩ (fun hHeld => ?_)
              refine wpAnyH_take (i := 0) (oi := { dst := some 63, op := _, type := _, pos := _, after := _, guard := _ }) (v := ?_) rfl (by kernel_rfl) (by kernel_rfl) (by kernel_rfl) (fun _ _ _ h => h) (Or.inl ⟨by rfl, ?_⟩) (by assumption) ?_
              case refine_2 =>
                intro w hSw
                try dsimp only at hSw
                go_simp
                try with_reducible rfl
              simp only [Act.put, List.setIfInBounds_toArray, List.set_cons_zero, List.set_cons_succ]
              refine wpAnyH_take (i := 1) (oi := { dst := some 64, op := _, type := _, pos := _, after := _, guard := _ }) (v := ?_) rfl (by kernel_rfl) (by kernel_rfl) (by kernel_rfl) (fun _ _ _ h => h) (Or.inl ⟨by rfl, ?_⟩) (by assumption) ?_
              case refine_2 =>
                intro w hSw
                try dsimp only at hSw
                go_simp
                try with_reducible rfl
              simp only [Act.put, List.setIfInBounds_toArray, List.set_cons_zero, List.set_cons_succ]
              refine wpAnyH_take (i := 2) (oi := { dst := some 65, op := _, type := _, pos := _, after := _, guard := _ }) (v := ?_) rfl (by kernel_rfl) (by kernel_rfl) (by kernel_rfl) (fun _ _ _ h => h) (Or.inl ⟨by rfl, ?_⟩) (by assumption) ?_
              case refine_2 =>
                intro w hSw
                try dsimp only at hSw
                go_simp
                try with_reducible rfl
              simp only [Act.put, List.setIfInBounds_toArray, List.set_cons_zero, List.set_cons_succ]
              refine wpAnyH_take (i := 3) (oi := { dst := some 66, op := _, type := _, pos := _, after := _, guard := _ }) (v := ?_) rfl (by kernel_rfl) (by kernel_rfl) (by kernel_rfl) (fun _ _ _ h => h) (Or.inl ⟨by rfl, ?_⟩) (by assumption) ?_
              case refine_2 =>
                intro w hSw
                try dsimp only at hSw
                go_simp
                try with_reducible rfl
              simp only [Act.put, List.setIfInBounds_toArray, List.set_cons_zero, List.set_cons_succ]
              refine wpAnyH_take (i := 4) (oi := { dst := some 67, op := _, type := _, pos := _, after := _, guard := _ }) (v := ?_) rfl (by kernel_rfl) (by kernel_rfl) (by kernel_rfl) (fun _ _ _ h => h) (Or.inl ⟨by rfl, ?_⟩) (by assumption) ?_
              case refine_2 =>
                intro w hSw
                try dsimp only at hSw
                go_simp
                try with_reducible rfl
              simp only [Act.put, List.setIfInBounds_toArray, List.set_cons_zero, List.set_cons_succ]
              refine wpAnyH_take (i := 5) (oi := { dst := some 68, op := _, type := _, pos := _, after := _, guard := _ }) (v := ?_) rfl (by kernel_rfl) (by kernel_rfl) (by kernel_rfl) (fun _ _ _ h => h) (Or.inl ⟨by rfl, ?_⟩) (by assumption) ?_
              case refine_2 =>
                intro w hSw
                try dsimp only at hSw
                go_simp
                try with_reducible rfl
              simp only [Act.put, List.setIfInBounds_toArray, List.set_cons_zero, List.set_cons_succ]
              refine wpAnyH_take (i := 6) (oi := { dst := some 69, op := _, type := _, pos := _, after := _, guard := _ }) (v := ?_) rfl (by kernel_rfl) (by kernel_rfl) (by kernel_rfl) (fun _ _ _ h => h) (Or.inl ⟨by rfl, ?_⟩) (by assumption) ?_
              case refine_2 =>
                intro w hSw
                try dsimp only at hSw
                go_simp
                try with_reducible rfl
              simp only [Act.put, List.setIfInBounds_toArray, List.set_cons_zero, List.set_cons_succ]
              refine wpAnyH_take (i := 7) (oi := { dst := some 70, op := _, type := _, pos := _, after := _, guard := _ }) (v := ?_) rfl (by kernel_rfl) (by kernel_rfl) (by kernel_rfl) (fun _ _ _ h => h) (Or.inl ⟨by rfl, ?_⟩) (by assumption) ?_
              case refine_2 =>
                intro w hSw
                try dsimp only at hSw
                go_simp
                try with_reducible rfl
              simp only [Act.put, List.setIfInBounds_toArray, List.set_cons_zero, List.set_cons_succ]
              refine wpAnyH_take (i := 9) (oi := { dst := some 72, op := _, type := _, pos := _, after := _, guard := _ }) (v := ?_) rfl (by kernel_rfl) (by kernel_rfl) (by kernel_rfl) (fun _ _ _ h => h) (Or.inl ⟨by rfl, ?_⟩) (by assumption) ?_
              case refine_2 =>
                intro w hSw
                try dsimp only at hSw
                go_simp
                try with_reducible rfl
              simp only [Act.put, List.setIfInBounds_toArray, List.set_cons_zero, List.set_cons_succ]
              refine wpAnyH_take (i := 10) (oi := { dst := some 73, op := _, type := _, pos := _, after := _, guard := _ }) (v := ?_) rfl (by kernel_rfl) (by kernel_rfl) (by kernel_rfl) (fun _ _ _ h => h) (Or.inl ⟨by rfl, ?_⟩) (by assumption) ?_
              case refine_2 =>
                intro w hSw
                try dsimp only at hSw
                go_simp
                try with_reducible rfl
              simp only [Act.put, List.setIfInBounds_toArray, List.set_cons_zero, List.set_cons_succ]
              refine wpAnyH_take (i := 11) (oi := { dst := some 74, op := _, type := _, pos := _, after := _, guard := _ }) (v := ?_) rfl (by kernel_rfl) (by kernel_rfl) (by kernel_rfl) (fun _ _ _ h => h) (Or.inl ⟨by rfl, ?_⟩) (by assumption) ?_
              case refine_2 =>
                intro w hSw
                try dsimp only at hSw
                go_simp
                try with_reducible rfl
              simp only [Act.put, List.setIfInBounds_toArray, List.set_cons_zero, List.set_cons_succ]
              refine wpAnyH_take (i := 12) (oi := { dst := some 75, op := _, type := _, pos := _, after := _, guard := _ }) (v := ?_) rfl (by kernel_rfl) (by kernel_rfl) (by kernel_rfl) (fun _ _ _ h => h) (Or.inl ⟨by rfl, ?_⟩) (by assumption) ?_
              case refine_2 =>
                intro w hSw
                try dsimp only at hSw
                go_simp
                try with_reducible rfl
              simp only [Act.put, List.setIfInBounds_toArray, List.set_cons_zero, List.set_cons_succ]
              refine wpAnyH_take (i := 13) (oi := { dst := some 76, op := _, type := _, pos := _, after := _, guard := _ }) (v := ?_) rfl (by kernel_rfl) (by kernel_rfl) (by kernel_rfl) (fun _ _ _ h => h) (Or.inl ⟨by rfl, ?_⟩) (by assumption) ?_
              case refine_2 =>
                intro w hSw
                try dsimp only at hSw
                go_simp
                try with_reducible rfl
              simp only [Act.put, List.setIfInBounds_toArray, List.set_cons_zero, List.set_cons_succ]
              refine wpAnyH_ready (rs := [8]) (by kernel_rfl) (by simp) ?_
              refine AllReadyH.cons (o := { dst := some 71, op := _, type := _, pos := _, after := _, guard := _ }) rfl (fun K hK => ?_) AllReadyH.nil
              refine step_enterG (by kernel_rfl) (by simp [Act.eval, entF, zzFn, go_sem]) (hf7.mono ?_)
              rintro e W8 ⟨rfl, hb8⟩
              have HB8 := hide ((Below.drew (Below.refl W7.heap.size W7)).trans hb8)
              have u1 := cellB (unhide HB8) y1 (cell_ltK y1)
              have u0 := cellB (unhide HB8) y0 (cell_ltK y0)
              clear hb8
              refine hK.out _ _ ⟨u1, u0⟩ (fun hHeld8 => ?_)
              clear hK K
              simp only [Act.put, List.setIfInBounds_toArray, List.set_cons_zero, List.set_cons_succ]
              clear hf7
              refine wpAnyH_take (i := 14) (oi := { dst := some 77, op := _, type := _, pos := _, after := _, guard := _ }) (v := ?_) rfl (by kernel_rfl) (by kernel_rfl) (by kernel_rfl) (fun _ _ _ h => h) (Or.inl ⟨by rfl, ?_⟩) (by assumption) ?_
              case refine_2 =>
                intro w hSw
                try dsimp only at hSw
                go_simp
                try with_reducible rfl
              simp only [Act.put, List.setIfInBounds_toArray, List.set_cons_zero, List.set_cons_succ]
              refine wpAnyH_take (i := 15) (oi := { dst := some 78, op := _, type := _, pos := _, after := _, guard := _ }) (v := ?_) rfl (by kernel_rfl) (by kernel_rfl) (by kernel_rfl) (fun _ _ _ h => h) (Or.inl ⟨by rfl, ?_⟩) (by assumption) ?_
              case refine_2 =>
                intro w hSw
                try dsimp only at hSw
                go_simp
                try with_reducible rfl
              simp only [Act.put, List.setIfInBounds_toArray, List.set_cons_zero, List.set_cons_succ]
              refine wpAnyH_take (i := 16) (oi := { dst := some 79, op := _, type := _, pos := _, after := _, guard := _ }) (v := ?_) rfl (by kernel_rfl) (by kernel_rfl) (by kernel_rfl) (fun _ _ _ h => h) (Or.inl ⟨by rfl, ?_⟩) (by assumption) ?_
              case refine_2 =>
                intro w hSw
                try dsimp only at hSw
                go_simp
                try with_reducible rfl
              simp only [Act.put, List.setIfInBounds_toArray, List.set_cons_zero, List.set_cons_succ]
              refine wpAnyH_take (i := 17) (oi := { dst := some 80, op := _, type := _, pos := _, after := _, guard := _ }) (v := ?_) rfl (by kernel_rfl) (by kernel_rfl) (by kernel_rfl) (fun _ _ _ h => h) (Or.inl ⟨by rfl, ?_⟩) (by assumption) ?_
              case refine_2 =>
                intro w hSw
                try dsimp only at hSw
                go_simp
                try with_reducible rfl
              simp only [Act.put, List.setIfInBounds_toArray, List.set_cons_zero, List.set_cons_succ]
              refine wpAnyH_take (i := 19) (oi := { dst := some 82, op := _, type := _, pos := _, after := _, guard := _ }) (v := ?_) rfl (by kernel_rfl) (by kernel_rfl) (by kernel_rfl) (fun _ _ _ h => h) (Or.inl ⟨by rfl, ?_⟩) (by assumption) ?_
              case refine_2 =>
                intro w hSw
                try dsimp only at hSw
                go_simp
                try with_reducible rfl
              simp only [Act.put, List.setIfInBounds_toArray, List.set_cons_zero, List.set_cons_succ]
              refine wpAnyH_take (i := 20) (oi := { dst := some 83, op := _, type := _, pos := _, after := _, guard := _ }) (v := ?_) rfl (by kernel_rfl) (by kernel_rfl) (by kernel_rfl) (fun _ _ _ h => h) (Or.inl ⟨by rfl, ?_⟩) (by assumption) ?_
              case refine_2 =>
                intro w hSw
                try dsimp only at hSw
                go_simp
                try with_reducible rfl
              simp only [Act.put, List.setIfInBounds_toArray, List.set_cons_zero, List.set_cons_succ]
              refine wpAnyH_take (i := 21) (oi := { dst := some 84, op := _, type := _, pos := _, after := _, guard := _ }) (v := ?_) rfl (by kernel_rfl) (by kernel_rfl) (by kernel_rfl) (fun _ _ _ h => h) (Or.inl ⟨by rfl, ?_⟩) (by assumption) ?_
              case refine_2 =>
                intro w hSw
                try dsimp only at hSw
                go_simp
                try with_reducible rfl
              simp only [Act.put, List.setIfInBounds_toArray, List.set_cons_zero, List.set_cons_succ]
              refine wpAnyH_take (i := 22) (oi := { dst := some 85, op := _, type := _, pos := _, after := _, guard := _ }) (v := ?_) rfl (by kernel_rfl) (by kernel_rfl) (by kernel_rfl) (fun _ _ _ h => h) (Or.inl ⟨by rfl, ?_⟩) (by assumption) ?_
              case refine_2 =>
                intro w hSw
                try dsimp only at hSw
                go_simp
                try with_reducible rfl
              simp only [Act.put, List.setIfInBounds_toArray, List.set_cons_zero, List.set_cons_succ]
              refine wpAnyH_take (i := 23) (oi := { dst := some 86, op := _, type := _, pos := _, after := _, guard := _ }) (v := ?_) rfl (by kernel_rfl) (by kernel_rfl) (by kernel_rfl) (fun _ _ _ h => h) (Or.inl ⟨by rfl, ?_⟩) (by assumption) ?_
              case refine_2 =>
                intro w hSw
                try dsimp only at hSw
                go_simp
                try with_reducible rfl
              simp only [Act.put, List.setIfInBounds_toArray, List.set_cons_zero, List.set_cons_succ]
              have hc8 := tabClass_any (w := W8) ((unhide HU7).keep (w' := W8) fun k hk => (unhide HB8).block k (Nat.lt_of_lt_of_le hk (unhide HMU))) (Nat.le_trans (unhide HMU) (unhide HB8).size) zzClass
              rw [show firstOf (tabOf (nd 1 l0 (t.kids ++ [fnTree l] ++ [classTree l])).kids).cs zzClass = some LC from (unhide HCK3).trans (congrArg some (unhide HLC))] at hc8
              have hcvc : clsV (some LC) = (LC : Int) := rfl
              rw [hcvc] at hc8
              clear hcvc
              refine wpAnyH_ready (rs := [18]) (by kernel_rfl) (by simp) ?_
              refine AllReadyH.cons (o := { dst := some 81, op := _, type := _, pos := _, after := _, guard := _ }) rfl (fun K hK => ?_) AllReadyH.nil
              refine step_enterG (by kernel_rfl) (by simp [Act.eval, entC, zzClass, go_sem]) (hc8.mono ?_)
              rintro e W9 ⟨rfl, hb9⟩
              have HB9 := hide ((unhide HB8).trans (hb9.mono (unhide HB8).size))
              have z1 := cellB hb9 u1 (cell_ltK u1)
              have z0 := cellB hb9 u0 (cell_ltK u0)
              clear hb9
              refine hK.out _ _ ⟨z1, z0⟩ (fun hHeld18 => ?_)
              clear hK K
              simp only [Act.put, List.setIfInBounds_toArray, List.set_cons_zero, List.set_cons_succ]
              clear hc8
              refine wpAnyH_take (i := 24) (oi := { dst := some 87, op := _, type := _, pos := _, after := _, guard := _ }) (v := ?_) rfl (by kernel_rfl) (by kernel_rfl) (by kernel_rfl) (fun _ _ _ h => h) (Or.inl ⟨by rfl, ?_⟩) (by assumption) ?_
              case refine_2 =>
                intro w hSw
                try dsimp only at hSw
                go_simp
                try with_reducible rfl
              simp only [Act.put, List.setIfInBounds_toArray, List.set_cons_zero, List.set_cons_succ]
              refine wpAnyH_take (i := 25) (oi := { dst := some 88, op := _, type := _, pos := _, after := _, guard := _ }) (v := ?_) rfl (by kernel_rfl) (by kernel_rfl) (by kernel_rfl) (fun _ _ _ h => h) (Or.inl ⟨by rfl, ?_⟩) (by assumption) ?_
              case refine_2 =>
                intro w hSw
                try dsimp only at hSw
                go_simp
                try with_reducible rfl
              simp only [Act.put, List.setIfInBounds_toArray, List.set_cons_zero, List.set_cons_succ]
              refine wpAnyH_take (i := 26) (oi := { dst := some 2, op := _, type := _, pos := _, after := _, guard := _ }) (v := ?_) rfl (by kernel_rfl) (by kernel_rfl) (by kernel_rfl) (fun _ _ _ h => h) (Or.inl ⟨by rfl, ?_⟩) (by assumption) ?_
              case refine_2 =>
                intro w hSw
                try dsimp only at hSw
                go_simp
                try with_reducible rfl
              simp only [Act.put, List.setIfInBounds_toArray, List.set_cons_zero, List.set_cons_succ]
              refine wpAnyH_done (by kernel_rfl) ?_ _
              clear hHeld hHeld8 hHeld18
              go_wp2_with fail
              go_ret
              exact ⟨rfl, (unhide HB7).trans ((unhide HB9).mono (unhide HB7).size)⟩
      · go_wp2_with fail
        go_ret
        exact ⟨rfl, unhide HB3⟩
  · go_wp2_with fail
    refine (checked_any (unhide HT1) (unhide HE1)).mono ?_
    rintro e W2 ⟨rfl, hb2⟩
    have HB2 := hide ((unhide HB1).trans (hb2.mono (unhide HB1).size))
    have HT2 := hide ((unhide HT1).more hb2)
    have HE2 := hide ((unhide HE1).keep hb2)
    clear hb2
    go_wp2_with fail
    refine (checked_any (unhide HT2) (unhide HE2)).mono ?_
    rintro e W3 ⟨rfl, hb3⟩
    have HB3 := hide ((unhide HB2).trans (hb3.mono (unhide HB2).size))
    clear hb3
    go_wp2_with fail
    go_ret
    exact ⟨rfl, unhide HB3⟩
end Go.Proofs.YtjcoobkpmpjpbaaGreatDoor
