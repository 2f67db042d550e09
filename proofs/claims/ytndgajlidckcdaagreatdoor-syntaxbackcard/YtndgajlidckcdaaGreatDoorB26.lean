/-
  The writer: within a node.
-/
import Derived.Test.YtndgajlidckcdaaGreatDoorB25
namespace Go.Proofs.YtndgajlidckcdaaGreatDoor
open Go.RowKit
set_option linter.unusedVariables false
set_option linter.unusedSimpArgs false

theorem many_kid {f : Nat} {t k : Tree} (hm : t.many ≤ f + 1) (hk : k ∈ t.kids) : k.many ≤ f := by
  have := many_mem hk
  rw [many_list] at hm
  omega
theorem kid_ok {f : Nat} {t k : Tree} (hx : Wx t) (hm : t.many ≤ f + 1) (hk : k ∈ t.kids) (hv : vK k) : Wx k ∧ vK k ∧ k.many ≤ f := ⟨hx.kid hk, hv, many_kid hm hk⟩
theorem vals_ok {f : Nat} {t : Tree} {l : List Tree} (hx : Wx t) (hm : t.many ≤ f + 1) (hl : ∀ k ∈ l, k ∈ t.kids ∧ vK k) : ValsOk f l := fun k hk => kid_ok hx hm (hl k hk).1 (hl k hk).2
theorem params_ok {f : Nat} {t p : Tree} (hx : Wx t) (hm : t.many ≤ f + 1) (hp : p ∈ t.kids) (h6 : p.kind = 6) : ValsOk f p.kids := fun k hk => by
  have h := params_in (hx.kid hp) h6 k hk
  refine ⟨h.1, h.2, ?_⟩
  have := many_kid hm hp
  have := many_mem hk
  have := many_list p
  omega
theorem block_ok {f : Nat} {t p : Tree} (hx : Wx t) (hm : t.many ≤ f + 1) (hp : p ∈ t.kids) (h7 : p.kind = 7) : StmsOk f p.kids := fun k hk => by
  have h := block_in (hx.kid hp) h7 k hk
  refine ⟨h.1, h.2, ?_⟩
  have := many_kid hm hp
  have := many_mem hk
  have := many_list p
  omega
theorem many_in {f : Nat} {t p : Tree} (hf : f ≤ 1200) (hm : t.many ≤ f + 1) (hp : p ∈ t.kids) : manyL p.kids ≤ 1200 := by
  have := many_kid hm hp
  have := many_list p
  omega
theorem many_all {f : Nat} {t : Tree} (hf : f ≤ 1200) (hm : t.many ≤ f + 1) : manyL t.kids ≤ 1200 := by
  have := many_list t
  omega
theorem sz_bare {R : Wr} {f D : Nat} (hW : WB R f D) {d : Nat} {t : Tree} (hx : Wx t) (hm : t.many ≤ f + 1) (hd : d + 1 ≤ D) {k : Tree} (hk : k ∈ t.kids) (hv : vK k) : (R.B d k).size ≤ 40000000 := by
  have := kid_len hW.len hx hm hd hk hv
  have := many_kid hm hk
  have := hW.f
  omega
theorem sz_val {R : Wr} {f D : Nat} (hW : WB R f D) {d : Nat} {t : Tree} (hx : Wx t) (hm : t.many ≤ f + 1) (hd : d + 1 ≤ D) {k : Tree} (hk : k ∈ t.kids) (hv : vK k) (l : Nat) : (xVal R d l k).size ≤ 40000000 := by
  have := xval_len l (kid_len hW.len hx hm hd hk hv)
  have := many_kid hm hk
  have := hW.f
  omega
theorem sz_pa {R : Wr} {f D : Nat} (hW : WB R f D) {d : Nat} {t : Tree} (hx : Wx t) (hm : t.many ≤ f + 1) (hd : d + 1 ≤ D) {p : Tree} (hk : p ∈ t.kids) (h6 : p.kind = 6) : (xVals R d p.kids).size ≤ 40000000 := by
  have := pa_len hW.len hx hm hd hk h6
  have := many_kid hm hk
  have := hW.f
  omega
theorem sz_bl {R : Wr} {f D : Nat} (hW : WB R f D) {d : Nat} {t : Tree} (hx : Wx t) (hm : t.many ≤ f + 1) (hd : d + 1 ≤ D) {p : Tree} (hk : p ∈ t.kids) (h7 : p.kind = 7) : (xBraces R d p.kids).size ≤ 40000000 := by
  have := bl_len hW.len hx hm hd hW.D hk h7
  have := many_kid hm hk
  have := hW.f
  omega
set_option maxRecDepth 100000 in
set_option maxHeartbeats 8000000 in
theorem wr_function {R : Wr} {f D : Nat} (hW : WB R f D) {w : World} (hg : SG w) {b d : Nat} {t : Tree} (hn : Nd w b t) (hx : Wx t) (hm : t.many ≤ f + 1) (hd : d + 1 ≤ D) (hc : HereC 2 t.kids) :
    Calls Tryz.prog 130 #[.agg #[.int .i64 d], .pointer (some ⟨b, 0, none⟩)] w fun e w' => e = .returned (.string (xFun R d t)) ∧ Add w w' := by
  obtain ⟨p, bl, ek, h6, h7⟩ := hc
  obtain ⟨g, cap, k0, hcap, hmx, c5, g0, n0, hrest⟩ := hn.one ek
  obtain ⟨k1, g1, n1⟩ := hrest 0 _ rfl
  obtain ⟨vp, p5, rp⟩ := n0.kids
  obtain ⟨vb, b5, rb⟩ := n1.kids
  have HC0 := hide fun (w1 : World) (ha : Add w w1) => values_any hW (hg.add ha) (d := d) (rp.add ha) (params_ok hx hm (by rw [ek]; simp) h6) (many_in hW.f hm (by rw [ek]; simp)) (Nat.le_of_succ_le hd)
  have HC1 := hide fun (w1 : World) (ha : Add w w1) => braces_any hW (hg.add ha) (d := d) (rb.add ha) (block_ok hx hm (by rw [ek]; simp) h7) (many_in hW.f hm (by rw [ek]; simp)) hd
  have hz0 := sz_pa hW hx hm hd (p := p) (by rw [ek]; simp) h6
  have hz1 := sz_bl hW hx hm hd (p := bl) (by rw [ek]; simp) h7
  have ha0 := (Add.refl w).alloc (.cells #[.int .i64 d] 89)
  have q0 : (w.alloc (.cells #[.int .i64 d] 89)).cell? ⟨w.heap.size, 0, none⟩ = some (.int .i64 d) := hcell (hnew _ _) 0
  have c5' : (w.alloc (.cells #[.int .i64 d] 89)).cell? ⟨b, 5, none⟩ = some (.slice (some ⟨g, 0, none⟩) 2 cap) := ha0.cellk c5
  have g0' : (w.alloc (.cells #[.int .i64 d] 89)).cell? ⟨g, 0, none⟩ = some (.pointer (some ⟨k0, 0, none⟩)) := ha0.cellk g0
  have g1' : (w.alloc (.cells #[.int .i64 d] 89)).cell? ⟨g, 1, none⟩ = some (.pointer (some ⟨k1, 0, none⟩)) := ha0.cellk g1
  have p5' : (w.alloc (.cells #[.int .i64 d] 89)).cell? ⟨k0, 5, none⟩ = some (vp) := ha0.cellk p5
  have b5' : (w.alloc (.cells #[.int .i64 d] 89)).cell? ⟨k1, 5, none⟩ = some (vb) := ha0.cellk b5
  have HX := hide (show xFun R d t = (((⟨#[40]⟩ ++ xVals R d p.kids) ++ ⟨#[41, 32]⟩) ++ xBraces R d bl.kids) by unfold xFun; rw [kid0 ek, kid1 ek])
  have HA := hide ha0
  clear hn hx hm hd hg hW n0 n1 rp rb hrest c5 g0 g1 p5 b5 ha0
  generalize xVals R d p.kids = X0 at *
  generalize xBraces R d bl.kids = X1 at *
  go_enter Tryz.func130, Tryz.ntmps130
  go_wp2_with fail
  generalize w.alloc (.cells #[.int .i64 d] 89) = wb at *
  have ent0 : ∀ w : World, Sem.run Tryz.prog (callFunc 192 #[.agg #[.int .i64 d], vp]) w = .ok (.enter 192 #[.agg #[.int .i64 d], vp]) w := fun _ => by kernel_rfl
  have ent1 : ∀ w : World, Sem.run Tryz.prog (callFunc 129 #[.agg #[.int .i64 d], vb]) w = .ok (.enter 129 #[.agg #[.int .i64 d], vb]) w := fun _ => by kernel_rfl
  refine wp_region_held_drew (S := fun w' => w'.cell? ⟨w.heap.size, 0, none⟩ = some (.int .i64 d) ∧ w'.cell? ⟨b, 5, none⟩ = some (.slice (some ⟨g, 0, none⟩) 2 cap) ∧ w'.cell? ⟨g, 0, none⟩ = some (.pointer (some ⟨k0, 0, none⟩)) ∧ w'.cell? ⟨g, 1, none⟩ = some (.pointer (some ⟨k1, 0, none⟩)) ∧ w'.cell? ⟨k0, 5, none⟩ = some (vp) ∧ w'.cell? ⟨k1, 5, none⟩ = some (vb) ∧ Hid (Add w w')) (by kernel_rfl) ⟨q0, c5', g0', g1', p5', b5', (unhide HA).drew⟩ (fun hHeld => ?_)
  refine tka 0 5 rfl ?_
  refine tka 1 6 rfl ?_
  refine tka 2 7 rfl ?_
  refine tka 3 8 rfl ?_
  refine tka 4 9 rfl ?_
  refine tka 5 10 rfl ?_
  refine tka 6 11 rfl ?_
  refine tka 7 12 rfl ?_
  refine tka 8 13 rfl ?_
  refine tka 9 14 rfl ?_
  simp only [List.setIfInBounds_toArray, List.set_cons_zero, List.set_cons_succ]
  refine tka 13 18 rfl ?_
  refine tka 14 19 rfl ?_
  refine tka 15 20 rfl ?_
  refine tka 16 21 rfl ?_
  refine tka 17 22 rfl ?_
  refine tka 18 23 rfl ?_
  refine tka 19 24 rfl ?_
  refine tka 20 25 rfl ?_
  refine tka 21 26 rfl ?_
  refine tka 22 27 rfl ?_
  simp only [List.setIfInBounds_toArray, List.set_cons_zero, List.set_cons_succ]
  refine wpAnyH_ready (rs := [10]) (by kernel_rfl) (by simp) ?_
  refine AllReadyH.cons (o := { dst := some 15, op := _, type := _, pos := _, after := _, guard := _ }) rfl (fun K hK => ?_) AllReadyH.nil
  refine step_enterW (by kernel_rfl) (by simp [Act.eval, ent0, go_sem]) ((unhide HC0 _ (unhide hHeld.2.2.2.2.2.2)).mono ?_)
  rintro e wc0 ⟨rfl, hac0⟩
  refine hK.out _ _ ⟨hac0.cellk hHeld.1, hac0.cellk hHeld.2.1, hac0.cellk hHeld.2.2.1, hac0.cellk hHeld.2.2.2.1, hac0.cellk hHeld.2.2.2.2.1, hac0.cellk hHeld.2.2.2.2.2.1, (unhide hHeld.2.2.2.2.2.2).tr hac0⟩ (fun hHeld10 => ?_)
  clear hK K
  simp only [Act.put, List.setIfInBounds_toArray, List.set_cons_zero, List.set_cons_succ]
  refine tkb 11 16 rfl ?_
  refine tkb 12 17 rfl ?_
  simp only [List.setIfInBounds_toArray, List.set_cons_zero, List.set_cons_succ]
  refine wpAnyH_ready (rs := [23]) (by kernel_rfl) (by simp) ?_
  refine AllReadyH.cons (o := { dst := some 28, op := _, type := _, pos := _, after := _, guard := _ }) rfl (fun K hK => ?_) AllReadyH.nil
  refine step_enterW (by kernel_rfl) (by simp [Act.eval, ent1, go_sem]) ((unhide HC1 _ (unhide hHeld10.2.2.2.2.2.2)).mono ?_)
  rintro e wc1 ⟨rfl, hac1⟩
  refine hK.out _ _ ⟨hac1.cellk hHeld10.1, hac1.cellk hHeld10.2.1, hac1.cellk hHeld10.2.2.1, hac1.cellk hHeld10.2.2.2.1, hac1.cellk hHeld10.2.2.2.2.1, hac1.cellk hHeld10.2.2.2.2.2.1, (unhide hHeld10.2.2.2.2.2.2).tr hac1⟩ (fun hHeld23 => ?_)
  clear hK K
  simp only [Act.put, List.setIfInBounds_toArray, List.set_cons_zero, List.set_cons_succ]
  refine tkb 24 29 rfl ?_
  refine tka 25 4 rfl ?_
  simp only [List.setIfInBounds_toArray, List.set_cons_zero, List.set_cons_succ]
  refine wpAnyH_done (by kernel_rfl) ?_ _
  go_wp2_with fail
  go_ret
  rw [unhide HX]
  exact ⟨rfl, (unhide hHeld23.2.2.2.2.2.2)⟩
set_option maxRecDepth 100000 in
set_option maxHeartbeats 8000000 in
theorem wr_guarded {R : Wr} {f D : Nat} (hW : WB R f D) {w : World} (hg : SG w) {b d : Nat} {t : Tree} (hn : Nd w b t) (hx : Wx t) (hm : t.many ≤ f + 1) (hd : d + 1 ≤ D) {c bl : Tree} {l : List Tree} (ek : t.kids = c :: bl :: l) (hv : vK c) (h7 : bl.kind = 7) :
    Calls Tryz.prog 134 #[.agg #[.int .i64 d], .pointer (some ⟨b, 0, none⟩)] w fun e w' => e = .returned (.string (xGuard R d t)) ∧ Add w w' := by
  obtain ⟨g, cap, k0, hcap, hmx, c5, g0, n0, hrest⟩ := hn.one ek
  obtain ⟨k1, g1, n1⟩ := hrest 0 _ rfl
  obtain ⟨vb, b5, rb⟩ := n1.kids
  have oc := kid_ok hx hm (k := c) (by rw [ek]; simp) hv
  have HC0 := hide fun (w1 : World) (ha : Add w w1) => value_any hW (hg.add ha) (d := d) (n0.add ha) oc.1 oc.2.1 oc.2.2 (Nat.le_of_succ_le hd)
  have HC1 := hide fun (w1 : World) (ha : Add w w1) => braces_any hW (hg.add ha) (d := d) (rb.add ha) (block_ok hx hm (by rw [ek]; simp) h7) (many_in hW.f hm (by rw [ek]; simp)) hd
  obtain ⟨L, hL⟩ : ∃ L, l.length = L := ⟨_, rfl⟩
  have c5 : w.cell? ⟨b, 5, none⟩ = some (.slice (some ⟨g, 0, none⟩) (L + 2) cap) := by rw [← hL]; exact c5
  have hL0 : (0 : Int) < (L : Int) + 2 := by omega
  have hL1 : (1 : Int) < (L : Int) + 2 := by omega
  have hz0 := sz_val hW hx hm hd (k := c) (by rw [ek]; simp) hv 1
  have hz1 := sz_bl hW hx hm hd (p := bl) (by rw [ek]; simp) h7
  have ha0 := (Add.refl w).alloc (.cells #[.int .i64 d] 89)
  have q0 : (w.alloc (.cells #[.int .i64 d] 89)).cell? ⟨w.heap.size, 0, none⟩ = some (.int .i64 d) := hcell (hnew _ _) 0
  have c5' : (w.alloc (.cells #[.int .i64 d] 89)).cell? ⟨b, 5, none⟩ = some (.slice (some ⟨g, 0, none⟩) (L + 2) cap) := ha0.cellk c5
  have g0' : (w.alloc (.cells #[.int .i64 d] 89)).cell? ⟨g, 0, none⟩ = some (.pointer (some ⟨k0, 0, none⟩)) := ha0.cellk g0
  have g1' : (w.alloc (.cells #[.int .i64 d] 89)).cell? ⟨g, 1, none⟩ = some (.pointer (some ⟨k1, 0, none⟩)) := ha0.cellk g1
  have b5' : (w.alloc (.cells #[.int .i64 d] 89)).cell? ⟨k1, 5, none⟩ = some (vb) := ha0.cellk b5
  have HX := hide (show xGuard R d t = (((⟨#[40]⟩ ++ xVal R d 1 c) ++ ⟨#[41, 32]⟩) ++ xBraces R d bl.kids) by unfold xGuard; rw [kid0 ek, kid1 ek])
  have HA := hide ha0
  clear hn hx hm hd hg hW n0 n1 rb hrest oc hL c5 g0 g1 b5 ha0
  generalize xVal R d 1 c = X0 at *
  generalize xBraces R d bl.kids = X1 at *
  go_enter Tryz.func134, Tryz.ntmps134
  go_wp2_with fail
  generalize w.alloc (.cells #[.int .i64 d] 89) = wb at *
  have ent0 : ∀ w : World, Sem.run Tryz.prog (callFunc 131 #[.agg #[.int .i64 d], .pointer (some ⟨k0, 0, none⟩)]) w = .ok (.enter 131 #[.agg #[.int .i64 d], .pointer (some ⟨k0, 0, none⟩)]) w := fun _ => by kernel_rfl
  have ent1 : ∀ w : World, Sem.run Tryz.prog (callFunc 129 #[.agg #[.int .i64 d], vb]) w = .ok (.enter 129 #[.agg #[.int .i64 d], vb]) w := fun _ => by kernel_rfl
  refine wp_region_held_drew (S := fun w' => w'.cell? ⟨w.heap.size, 0, none⟩ = some (.int .i64 d) ∧ w'.cell? ⟨b, 5, none⟩ = some (.slice (some ⟨g, 0, none⟩) (L + 2) cap) ∧ w'.cell? ⟨g, 0, none⟩ = some (.pointer (some ⟨k0, 0, none⟩)) ∧ w'.cell? ⟨g, 1, none⟩ = some (.pointer (some ⟨k1, 0, none⟩)) ∧ w'.cell? ⟨k1, 5, none⟩ = some (vb) ∧ Hid (Add w w')) (by kernel_rfl) ⟨q0, c5', g0', g1', b5', (unhide HA).drew⟩ (fun hHeld => ?_)
  refine tka 0 5 rfl ?_
  refine tka 1 6 rfl ?_
  refine tka 2 7 rfl ?_
  refine tka 3 8 rfl ?_
  refine tka 4 9 rfl ?_
  refine tka 5 10 rfl ?_
  refine tka 6 11 rfl ?_
  refine tka 10 15 rfl ?_
  refine tka 11 16 rfl ?_
  refine tka 12 17 rfl ?_
  simp only [List.setIfInBounds_toArray, List.set_cons_zero, List.set_cons_succ]
  refine tka 13 18 rfl ?_
  refine tka 14 19 rfl ?_
  refine tka 15 20 rfl ?_
  refine tka 16 21 rfl ?_
  refine tka 17 22 rfl ?_
  refine tka 18 23 rfl ?_
  refine tka 19 24 rfl ?_
  simp only [List.setIfInBounds_toArray, List.set_cons_zero, List.set_cons_succ]
  refine wpAnyH_ready (rs := [7]) (by kernel_rfl) (by simp) ?_
  refine AllReadyH.cons (o := { dst := some 12, op := _, type := _, pos := _, after := _, guard := _ }) rfl (fun K hK => ?_) AllReadyH.nil
  refine step_enterW (by kernel_rfl) (by simp [Act.eval, ent0, go_sem]) ((unhide HC0 _ (unhide hHeld.2.2.2.2.2)).mono ?_)
  rintro e wc0 ⟨rfl, hac0⟩
  refine hK.out _ _ ⟨hac0.cellk hHeld.1, hac0.cellk hHeld.2.1, hac0.cellk hHeld.2.2.1, hac0.cellk hHeld.2.2.2.1, hac0.cellk hHeld.2.2.2.2.1, (unhide hHeld.2.2.2.2.2).tr hac0⟩ (fun hHeld7 => ?_)
  clear hK K
  simp only [Act.put, List.setIfInBounds_toArray, List.set_cons_zero, List.set_cons_succ]
  refine tkb 8 13 rfl ?_
  refine tkb 9 14 rfl ?_
  simp only [List.setIfInBounds_toArray, List.set_cons_zero, List.set_cons_succ]
  refine wpAnyH_ready (rs := [20]) (by kernel_rfl) (by simp) ?_
  refine AllReadyH.cons (o := { dst := some 25, op := _, type := _, pos := _, after := _, guard := _ }) rfl (fun K hK => ?_) AllReadyH.nil
  refine step_enterW (by kernel_rfl) (by simp [Act.eval, ent1, go_sem]) ((unhide HC1 _ (unhide hHeld7.2.2.2.2.2)).mono ?_)
  rintro e wc1 ⟨rfl, hac1⟩
  refine hK.out _ _ ⟨hac1.cellk hHeld7.1, hac1.cellk hHeld7.2.1, hac1.cellk hHeld7.2.2.1, hac1.cellk hHeld7.2.2.2.1, hac1.cellk hHeld7.2.2.2.2.1, (unhide hHeld7.2.2.2.2.2).tr hac1⟩ (fun hHeld20 => ?_)
  clear hK K
  simp only [Act.put, List.setIfInBounds_toArray, List.set_cons_zero, List.set_cons_succ]
  refine tkb 21 26 rfl ?_
  refine tka 22 4 rfl ?_
  simp only [List.setIfInBounds_toArray, List.set_cons_zero, List.set_cons_succ]
  refine wpAnyH_done (by kernel_rfl) ?_ _
  go_wp2_with fail
  go_ret
  rw [unhide HX]
  exact ⟨rfl, (unhide hHeld20.2.2.2.2.2)⟩
set_option maxRecDepth 100000 in
set_option maxHeartbeats 8000000 in
theorem wr_asked {R : Wr} {f D : Nat} (hW : WB R f D) {w : World} (hg : SG w) {b d : Nat} {t : Tree} (hn : Nd w b t) (hx : Wx t) (hm : t.many ≤ f + 1) (hd : d + 1 ≤ D) {c : Tree} {l : List Tree} (ek : t.kids = c :: l) (hv : vK c) :
    Calls Tryz.prog 247 #[.agg #[.int .i64 d], .pointer (some ⟨b, 0, none⟩)] w fun e w' => e = .returned (.string (xVal R d 8 (kid t 0))) ∧ Add w w' := by
  obtain ⟨g, cap, k0, hcap, hmx, c5, g0, n0, hrest⟩ := hn.one ek
  have oc := kid_ok hx hm (k := c) (by rw [ek]; simp) hv
  obtain ⟨L, hL⟩ : ∃ L, l.length = L := ⟨_, rfl⟩
  have c5 : w.cell? ⟨b, 5, none⟩ = some (.slice (some ⟨g, 0, none⟩) (L + 1) cap) := by rw [← hL]; exact c5
  have HC0 := hide fun (w1 : World) (ha : Add w w1) => atLeast_any hW (hg.add ha) (d := d) (l := 8) (n0.add ha) oc.1 oc.2.1 oc.2.2 (Nat.le_of_succ_le hd)
  have ha0 := (Add.refl w).alloc (.cells #[.int .i64 d] 89)
  have q0 : (w.alloc (.cells #[.int .i64 d] 89)).cell? ⟨w.heap.size, 0, none⟩ = some (.int .i64 d) := hcell (hnew _ _) 0
  have c5' : (w.alloc (.cells #[.int .i64 d] 89)).cell? ⟨b, 5, none⟩ = some (.slice (some ⟨g, 0, none⟩) (L + 1) cap) := ha0.cellk c5
  have g0' : (w.alloc (.cells #[.int .i64 d] 89)).cell? ⟨g, 0, none⟩ = some (.pointer (some ⟨k0, 0, none⟩)) := ha0.cellk g0
  have HX := hide (show xVal R d 8 (kid t 0) = xVal R d 8 c by rw [kid0 ek])
  have HA := hide ha0
  clear hn hx hm hd hg hW n0 hrest oc hL c5 g0 ha0
  generalize xVal R d 8 c = X0 at *
  go_enter Tryz.func247, Tryz.ntmps247
  go_wp2_with fail
  generalize w.alloc (.cells #[.int .i64 d] 89) = wb at *
  have ent0 : ∀ w : World, Sem.run Tryz.prog (callFunc 193 #[.agg #[.int .i64 d], .int .i64 8, .pointer (some ⟨k0, 0, none⟩)]) w = .ok (.enter 193 #[.agg #[.int .i64 d], .int .i64 8, .pointer (some ⟨k0, 0, none⟩)]) w := fun _ => by kernel_rfl
  refine wp_region_held_drew (S := fun w' => w'.cell? ⟨w.heap.size, 0, none⟩ = some (.int .i64 d) ∧ w'.cell? ⟨b, 5, none⟩ = some (.slice (some ⟨g, 0, none⟩) (L + 1) cap) ∧ w'.cell? ⟨g, 0, none⟩ = some (.pointer (some ⟨k0, 0, none⟩)) ∧ Hid (Add w w')) (by kernel_rfl) ⟨q0, c5', g0', (unhide HA).drew⟩ (fun hHeld => ?_)
  refine tka 0 5 rfl ?_
  refine tka 1 6 rfl ?_
  refine tka 2 7 rfl ?_
  refine tka 3 8 rfl ?_
  refine tka 4 9 rfl ?_
  refine tka 5 10 rfl ?_
  refine tka 6 11 rfl ?_
  simp only [List.setIfInBounds_toArray, List.set_cons_zero, List.set_cons_succ]
  refine wpAnyH_ready (rs := [7]) (by kernel_rfl) (by simp) ?_
  refine AllReadyH.cons (o := { dst := some 12, op := _, type := _, pos := _, after := _, guard := _ }) rfl (fun K hK => ?_) AllReadyH.nil
  refine step_enterW (by kernel_rfl) (by simp [Act.eval, ent0, go_sem]) ((unhide HC0 _ (unhide hHeld.2.2.2)).mono ?_)
  rintro e wc0 ⟨rfl, hac0⟩
  refine hK.out _ _ ⟨hac0.cellk hHeld.1, hac0.cellk hHeld.2.1, hac0.cellk hHeld.2.2.1, (unhide hHeld.2.2.2).tr hac0⟩ (fun hHeld7 => ?_)
  clear hK K
  simp only [Act.put, List.setIfInBounds_toArray, List.set_cons_zero, List.set_cons_succ]
  refine tka 8 4 rfl ?_
  simp only [List.setIfInBounds_toArray, List.set_cons_zero, List.set_cons_succ]
  refine wpAnyH_done (by kernel_rfl) ?_ _
  go_wp2_with fail
  go_ret
  rw [unhide HX]
  exact ⟨rfl, (unhide hHeld7.2.2.2)⟩
set_option maxRecDepth 100000 in
set_option maxHeartbeats 8000000 in
theorem wr_first {R : Wr} {f D : Nat} (hW : WB R f D) {w : World} (hg : SG w) {b d : Nat} {t : Tree} (hn : Nd w b t) (hx : Wx t) (hm : t.many ≤ f + 1) (hd : d + 1 ≤ D) {c : Tree} {l : List Tree} (ek : t.kids = c :: l) (hv : vK c) :
    Calls Tryz.prog 132 #[.agg #[.int .i64 d], .pointer (some ⟨b, 0, none⟩)] w fun e w' => e = .returned (.string (xFirst R d t)) ∧ Add w w' := by
  obtain ⟨g, cap, k0, hcap, hmx, c5, g0, n0, hrest⟩ := hn.one ek
  have oc := kid_ok hx hm (k := c) (by rw [ek]; simp) hv
  obtain ⟨L, hL⟩ : ∃ L, l.length = L := ⟨_, rfl⟩
  have c5 : w.cell? ⟨b, 5, none⟩ = some (.slice (some ⟨g, 0, none⟩) (L + 1) cap) := by rw [← hL]; exact c5
  have HC0 := hide fun (w1 : World) (ha : Add w w1) => value_any hW (hg.add ha) (d := d) (n0.add ha) oc.1 oc.2.1 oc.2.2 (Nat.le_of_succ_le hd)
  have hz0 := sz_val hW hx hm hd (k := c) (by rw [ek]; simp) hv 1
  have ha0 := (Add.refl w).alloc (.cells #[.int .i64 d] 89)
  have q0 : (w.alloc (.cells #[.int .i64 d] 89)).cell? ⟨w.heap.size, 0, none⟩ = some (.int .i64 d) := hcell (hnew _ _) 0
  have c5' : (w.alloc (.cells #[.int .i64 d] 89)).cell? ⟨b, 5, none⟩ = some (.slice (some ⟨g, 0, none⟩) (L + 1) cap) := ha0.cellk c5
  have g0' : (w.alloc (.cells #[.int .i64 d] 89)).cell? ⟨g, 0, none⟩ = some (.pointer (some ⟨k0, 0, none⟩)) := ha0.cellk g0
  have HX := hide (show xFirst R d t = if (decide (d = 0) && Lib.hasPrefix (xVal R d 1 c).data.toList [102, 110, 40]) = true then ((⟨#[40]⟩ ++ xVal R d 1 c) ++ ⟨#[41]⟩) else xVal R d 1 c by unfold xFirst; rw [kid0 ek])
  have HA := hide ha0
  clear hn hx hm hd hg hW n0 hrest oc hL c5 g0 ha0
  generalize xVal R d 1 c = X0 at *
  go_enter Tryz.func132, Tryz.ntmps132
  go_wp2_with fail
  generalize w.alloc (.cells #[.int .i64 d] 89) = wb at *
  have ent0 : ∀ w : World, Sem.run Tryz.prog (callFunc 131 #[.agg #[.int .i64 d], .pointer (some ⟨k0, 0, none⟩)]) w = .ok (.enter 131 #[.agg #[.int .i64 d], .pointer (some ⟨k0, 0, none⟩)]) w := fun _ => by kernel_rfl
  refine wp_region_held_drew (S := fun w' => w'.cell? ⟨w.heap.size, 0, none⟩ = some (.int .i64 d) ∧ w'.cell? ⟨b, 5, none⟩ = some (.slice (some ⟨g, 0, none⟩) (L + 1) cap) ∧ w'.cell? ⟨g, 0, none⟩ = some (.pointer (some ⟨k0, 0, none⟩)) ∧ Hid (Add w w')) (by kernel_rfl) ⟨q0, c5', g0', (unhide HA).drew⟩ (fun hHeld => ?_)
  refine tka 0 6 rfl ?_
  refine tka 1 7 rfl ?_
  refine tka 2 8 rfl ?_
  refine tka 3 9 rfl ?_
  refine tka 4 10 rfl ?_
  refine tka 5 11 rfl ?_
  refine tka 6 12 rfl ?_
  simp only [List.setIfInBounds_toArray, List.set_cons_zero, List.set_cons_succ]
  refine wpAnyH_ready (rs := [7]) (by kernel_rfl) (by simp) ?_
  refine AllReadyH.cons (o := { dst := some 13, op := _, type := _, pos := _, after := _, guard := _ }) rfl (fun K hK => ?_) AllReadyH.nil
  refine step_enterW (by kernel_rfl) (by simp [Act.eval, ent0, go_sem]) ((unhide HC0 _ (unhide hHeld.2.2.2)).mono ?_)
  rintro e wc0 ⟨rfl, hac0⟩
  refine hK.out _ _ ⟨hac0.cellk hHeld.1, hac0.cellk hHeld.2.1, hac0.cellk hHeld.2.2.1, (unhide hHeld.2.2.2).tr hac0⟩ (fun hHeld7 => ?_)
  clear hK K
  simp only [Act.put, List.setIfInBounds_toArray, List.set_cons_zero, List.set_cons_succ]
  refine tka 8 5 rfl ?_
  simp only [List.setIfInBounds_toArray, List.set_cons_zero, List.set_cons_succ]
  refine wpAnyH_done (by kernel_rfl) ?_ _
  have HAL := hide (unhide hHeld7.2.2.2)
  have q1 := hac0.cellk hHeld.1
  clear hHeld hHeld7 hac0
  by_cases h0 : d = 0
  · subst h0
    cases hp : Lib.hasPrefix X0.data.toList [102, 110, 40]
    · go_wp2_with (go_at_call 62; refine (Tryz.strings_HasPrefix _ _ _).mono ?_; rintro e w3 ⟨rfl, rfl⟩; rw [show Lib.hasPrefix X0.data.toList (⟨#[102, 110, 40]⟩ : ByteArray).data.toList = false from hp])
      go_ret
      rw [unhide HX, if_neg (by rw [hp]; decide)]
      exact ⟨rfl, unhide HAL⟩
    · go_wp2_with (go_at_call 62; refine (Tryz.strings_HasPrefix _ _ _).mono ?_; rintro e w3 ⟨rfl, rfl⟩; rw [show Lib.hasPrefix X0.data.toList (⟨#[102, 110, 40]⟩ : ByteArray).data.toList = true from hp])
      go_ret
      rw [unhide HX, if_pos (by rw [hp]; decide)]
      exact ⟨rfl, unhide HAL⟩
  · have hd0 : ((d : Int) == 0) = false := by rw [beq_eq_false_iff_ne]; omega
    go_wp2_with fail
    go_ret
    rw [unhide HX, if_neg (by rw [decide_eq_false h0, Bool.false_and]; exact Bool.false_ne_true)]
    exact ⟨rfl, unhide HAL⟩
set_option maxRecDepth 100000 in
set_option maxHeartbeats 8000000 in
theorem wr_under {w : World} {b : Nat} {t : Tree} (hn : Nd w b t) (hu : t.under.size ≤ 16) : Calls Tryz.prog 128 #[.pointer (some ⟨b, 0, none⟩)] w fun e w' => e = .returned (.string (xUnder t)) ∧ Add w w' := by
  obtain ⟨ks, hv⟩ := hn.view
  have c2 := hv.c2
  by_cases h : t.under = noText
  · have HX := hide (show xUnder t = noText from if_pos h)
    rw [h] at c2
    clear hn hv hu h
    unfold noText at c2 HX
    go_enter Tryz.func128, Tryz.ntmps128
    go_wp2_with fail
    go_ret
    rw [unhide HX]
    exact ⟨rfl, Add.refl _⟩
  · have HX := hide (show xUnder t = (⟨#[32, 60, 32]⟩ ++ t.under) from if_neg h)
    have he : (t.under.toList == ([] : List UInt8)) = false := by
      rw [beq_eq_false_iff_ne]
      intro e
      apply h
      rw [ByteArray.toList_eq] at e
      exact WideShapes.bytes_inj (by rw [e]; rfl)
    clear hn hv h
    generalize t.under = U at *
    go_enter Tryz.func128, Tryz.ntmps128
    go_wp2_with fail
    go_ret
    rw [unhide HX]
    exact ⟨rfl, Add.refl _⟩
set_option maxRecDepth 100000 in
set_option maxHeartbeats 8000000 in
theorem wr_called_get {R : Wr} {f D : Nat} (hW : WB R f D) {w : World} (hg : SG w) {b d : Nat} {t : Tree} (hn : Nd w b t) (hx : Wx t) (hm : t.many ≤ f + 1) (hd : d + 1 ≤ D) {c : Tree} {l : List Tree} (ek : t.kids = c :: l) (hv : vK c) (h42 : c.kind = 42) :
    Calls Tryz.prog 249 #[.agg #[.int .i64 d], .pointer (some ⟨b, 0, none⟩)] w fun e w' => e = .returned (.string (xCalled R d t)) ∧ Add w w' := by
  obtain ⟨g, cap, k0, hcap, hmx, c5, g0, n0, hrest⟩ := hn.one ek
  have oc := kid_ok hx hm (k := c) (by rw [ek]; simp) hv
  obtain ⟨L, hL⟩ : ∃ L, l.length = L := ⟨_, rfl⟩
  have c5 : w.cell? ⟨b, 5, none⟩ = some (.slice (some ⟨g, 0, none⟩) (L + 1) cap) := by rw [← hL]; exact c5
  obtain ⟨ks0, v0⟩ := n0.view
  have z0 := v0.c0
  rw [h42] at z0
  have HC0 := hide fun (w1 : World) (ha : Add w w1) => hW.bare w1 k0 c d (hg.add ha) (n0.add ha) oc.1 oc.2.1 oc.2.2 (Nat.le_of_succ_le hd)
  have hz0 := sz_bare hW hx hm hd (k := c) (by rw [ek]; simp) hv
  have ha0 := (Add.refl w).alloc (.cells #[.int .i64 d] 89)
  have q0 : (w.alloc (.cells #[.int .i64 d] 89)).cell? ⟨w.heap.size, 0, none⟩ = some (.int .i64 d) := hcell (hnew _ _) 0
  have c5' : (w.alloc (.cells #[.int .i64 d] 89)).cell? ⟨b, 5, none⟩ = some (.slice (some ⟨g, 0, none⟩) (L + 1) cap) := ha0.cellk c5
  have g0' : (w.alloc (.cells #[.int .i64 d] 89)).cell? ⟨g, 0, none⟩ = some (.pointer (some ⟨k0, 0, none⟩)) := ha0.cellk g0
  have z0' : (w.alloc (.cells #[.int .i64 d] 89)).cell? ⟨k0, 0, none⟩ = some (.int .i64 42) := ha0.cellk z0
  have HX := hide (show xCalled R d t = ((⟨#[40]⟩ ++ R.B d c) ++ ⟨#[41]⟩) by unfold xCalled; rw [kid0 ek, if_pos h42])
  have HA := hide ha0
  clear hn hx hm hd hg hW n0 hrest oc hL c5 g0 z0 v0 ha0
  generalize R.B d c = X0 at *
  go_enter Tryz.func249, Tryz.ntmps249
  go_wp2_with fail
  generalize w.alloc (.cells #[.int .i64 d] 89) = wb at *
  have ent0 : ∀ w : World, Sem.run Tryz.prog (callFunc 229 #[.agg #[.int .i64 d], .pointer (some ⟨k0, 0, none⟩)]) w = .ok (.enter 229 #[.agg #[.int .i64 d], .pointer (some ⟨k0, 0, none⟩)]) w := fun _ => by kernel_rfl
  refine wp_region_held_drew (S := fun w' => w'.cell? ⟨w.heap.size, 0, none⟩ = some (.int .i64 d) ∧ w'.cell? ⟨b, 5, none⟩ = some (.slice (some ⟨g, 0, none⟩) (L + 1) cap) ∧ w'.cell? ⟨g, 0, none⟩ = some (.pointer (some ⟨k0, 0, none⟩)) ∧ Hid (Add w w')) (by kernel_rfl) ⟨q0, c5', g0', (unhide HA).drew⟩ (fun hHeld => ?_)
  refine tka 0 15 rfl ?_
  refine tka 1 16 rfl ?_
  refine tka 2 17 rfl ?_
  refine tka 3 18 rfl ?_
  refine tka 4 19 rfl ?_
  refine tka 5 20 rfl ?_
  refine tka 6 21 rfl ?_
  simp only [List.setIfInBounds_toArray, List.set_cons_zero, List.set_cons_succ]
  refine wpAnyH_ready (rs := [7]) (by kernel_rfl) (by simp) ?_
  refine AllReadyH.cons (o := { dst := some 22, op := _, type := _, pos := _, after := _, guard := _ }) rfl (fun K hK => ?_) AllReadyH.nil
  refine step_enterW (by kernel_rfl) (by simp [Act.eval, ent0, go_sem]) ((unhide HC0 _ (unhide hHeld.2.2.2)).mono ?_)
  rintro e wc0 ⟨rfl, hac0⟩
  refine hK.out _ _ ⟨hac0.cellk hHeld.1, hac0.cellk hHeld.2.1, hac0.cellk hHeld.2.2.1, (unhide hHeld.2.2.2).tr hac0⟩ (fun hHeld7 => ?_)
  clear hK K
  simp only [Act.put, List.setIfInBounds_toArray, List.set_cons_zero, List.set_cons_succ]
  refine tkb 8 23 rfl ?_
  refine tkb 9 24 rfl ?_
  refine tka 10 4 rfl ?_
  simp only [List.setIfInBounds_toArray, List.set_cons_zero, List.set_cons_succ]
  refine wpAnyH_done (by kernel_rfl) ?_ _
  go_wp2_with fail
  go_ret
  rw [unhide HX]
  exact ⟨rfl, (unhide hHeld7.2.2.2)⟩
set_option maxRecDepth 100000 in
set_option maxHeartbeats 8000000 in
theorem wr_called_other {R : Wr} {f D : Nat} (hW : WB R f D) {w : World} (hg : SG w) {b d : Nat} {t : Tree} (hn : Nd w b t) (hx : Wx t) (hm : t.many ≤ f + 1) (hd : d + 1 ≤ D) {c : Tree} {l : List Tree} (ek : t.kids = c :: l) (hv : vK c) (h42 : c.kind ≠ 42) :
    Calls Tryz.prog 249 #[.agg #[.int .i64 d], .pointer (some ⟨b, 0, none⟩)] w fun e w' => e = .returned (.string (xCalled R d t)) ∧ Add w w' := by
  obtain ⟨g, cap, k0, hcap, hmx, c5, g0, n0, hrest⟩ := hn.one ek
  have oc := kid_ok hx hm (k := c) (by rw [ek]; simp) hv
  obtain ⟨L, hL⟩ : ∃ L, l.length = L := ⟨_, rfl⟩
  have c5 : w.cell? ⟨b, 5, none⟩ = some (.slice (some ⟨g, 0, none⟩) (L + 1) cap) := by rw [← hL]; exact c5
  obtain ⟨ks0, v0⟩ := n0.view
  have z0 := v0.c0
  have HC0 := hide fun (w1 : World) (ha : Add w w1) => wr_asked hW (hg.add ha) (d := d) (hn.add ha) hx hm hd ek hv
  have ha0 := (Add.refl w).alloc (.cells #[.int .i64 d] 89)
  have q0 : (w.alloc (.cells #[.int .i64 d] 89)).cell? ⟨w.heap.size, 0, none⟩ = some (.int .i64 d) := hcell (hnew _ _) 0
  have c5' : (w.alloc (.cells #[.int .i64 d] 89)).cell? ⟨b, 5, none⟩ = some (.slice (some ⟨g, 0, none⟩) (L + 1) cap) := ha0.cellk c5
  have g0' : (w.alloc (.cells #[.int .i64 d] 89)).cell? ⟨g, 0, none⟩ = some (.pointer (some ⟨k0, 0, none⟩)) := ha0.cellk g0
  have z0' : (w.alloc (.cells #[.int .i64 d] 89)).cell? ⟨k0, 0, none⟩ = some (.int .i64 c.kind) := ha0.cellk z0
  have HX := hide (show xCalled R d t = xVal R d 8 (kid t 0) by unfold xCalled; rw [kid0 ek, if_neg h42])
  have h42' : ((c.kind : Int) == 42) = false := by rw [beq_eq_false_iff_ne]; omega
  have h42b : ¬ (c.kind : Int) = 42 := by omega
  have HA := hide ha0
  clear hn hx hm hd hg hW n0 hrest oc hL c5 g0 z0 v0 ha0
  generalize xVal R d 8 (kid t 0) = X0 at *
  go_enter Tryz.func249, Tryz.ntmps249
  go_wp2_with fail
  refine (unhide HC0 _ (unhide HA)).mono ?_
  rintro e wc0 ⟨rfl, hac0⟩
  have HAC0 := hide ((unhide HA).tr hac0)
  clear hac0
  go_wp2_with fail
  go_ret
  rw [unhide HX]
  exact ⟨rfl, unhide HAC0⟩
set_option maxRecDepth 100000 in
set_option maxHeartbeats 8000000 in
theorem wr_returned_none {R : Wr} {f D : Nat} (hW : WB R f D) {w : World} (hg : SG w) {b d : Nat} {t : Tree} (hn : Nd w b t) (hx : Wx t) (hm : t.many ≤ f + 1) (hd : d + 1 ≤ D) (ek : t.kids = []) :
    Calls Tryz.prog 135 #[.agg #[.int .i64 d], .pointer (some ⟨b, 0, none⟩)] w fun e w' => e = .returned (.string (xRet R d t)) ∧ Add w w' := by
  obtain ⟨ks, hv⟩ := hn.view
  obtain ⟨g0, cap0, e1, _, _, _⟩ := hv.kids
  have c5 := hv.c5
  rw [e1, ek] at c5
  have c5 : w.cell? ⟨b, 5, none⟩ = some (.slice g0 0 cap0) := c5
  have ha0 := (Add.refl w).alloc (.cells #[.int .i64 d] 89)
  have q0 : (w.alloc (.cells #[.int .i64 d] 89)).cell? ⟨w.heap.size, 0, none⟩ = some (.int .i64 d) := hcell (hnew _ _) 0
  have c5' : (w.alloc (.cells #[.int .i64 d] 89)).cell? ⟨b, 5, none⟩ = some (.slice g0 0 cap0) := ha0.cellk c5
  have HX := hide (show xRet R d t = ⟨#[114, 101, 116, 117, 114, 110, 59]⟩ by unfold xRet; rw [if_pos (by rw [ek]; rfl)])
  have HA := hide ha0
  clear hn hx hm hd hg hW c5 hv e1 ha0
  go_enter Tryz.func135, Tryz.ntmps135
  go_wp2_with fail
  go_ret
  rw [unhide HX]
  exact ⟨rfl, unhide HA⟩
set_option maxRecDepth 100000 in
set_option maxHeartbeats 8000000 in
theorem wr_returned_one {R : Wr} {f D : Nat} (hW : WB R f D) {w : World} (hg : SG w) {b d : Nat} {t : Tree} (hn : Nd w b t) (hx : Wx t) (hm : t.many ≤ f + 1) (hd : d + 1 ≤ D) {c : Tree} {l : List Tree} (ek : t.kids = c :: l) (hv : vK c) :
    Calls Tryz.prog 135 #[.agg #[.int .i64 d], .pointer (some ⟨b, 0, none⟩)] w fun e w' => e = .returned (.string (xRet R d t)) ∧ Add w w' := by
  obtain ⟨g, cap, k0, hcap, hmx, c5, g0, n0, hrest⟩ := hn.one ek
  have oc := kid_ok hx hm (k := c) (by rw [ek]; simp) hv
  obtain ⟨L, hL⟩ : ∃ L, l.length = L := ⟨_, rfl⟩
  have c5 : w.cell? ⟨b, 5, none⟩ = some (.slice (some ⟨g, 0, none⟩) (L + 1) cap) := by rw [← hL]; exact c5
  have HC0 := hide fun (w1 : World) (ha : Add w w1) => value_any hW (hg.add ha) (d := d) (n0.add ha) oc.1 oc.2.1 oc.2.2 (Nat.le_of_succ_le hd)
  have hz0 := sz_val hW hx hm hd (k := c) (by rw [ek]; simp) hv 1
  have hL0 : (((L : Int) + 1) == 0) = false := by rw [beq_eq_false_iff_ne]; omega
  have hL2 : ¬ ((L : Int) + 1) = 0 := by omega
  have ha0 := (Add.refl w).alloc (.cells #[.int .i64 d] 89)
  have q0 : (w.alloc (.cells #[.int .i64 d] 89)).cell? ⟨w.heap.size, 0, none⟩ = some (.int .i64 d) := hcell (hnew _ _) 0
  have c5' : (w.alloc (.cells #[.int .i64 d] 89)).cell? ⟨b, 5, none⟩ = some (.slice (some ⟨g, 0, none⟩) (L + 1) cap) := ha0.cellk c5
  have g0' : (w.alloc (.cells #[.int .i64 d] 89)).cell? ⟨g, 0, none⟩ = some (.pointer (some ⟨k0, 0, none⟩)) := ha0.cellk g0
  have HX := hide (show xRet R d t = ((⟨#[114, 101, 116, 117, 114, 110, 32]⟩ ++ xVal R d 1 c) ++ ⟨#[59]⟩) by unfold xRet; rw [kid0 ek, if_neg (by rw [ek]; simp)])
  have HA := hide ha0
  clear hn hx hm hd hg hW n0 hrest oc hL c5 g0 ha0
  generalize xVal R d 1 c = X0 at *
  go_enter Tryz.func135, Tryz.ntmps135
  go_wp2_with fail
  generalize w.alloc (.cells #[.int .i64 d] 89) = wb at *
  have ent0 : ∀ w : World, Sem.run Tryz.prog (callFunc 131 #[.agg #[.int .i64 d], .pointer (some ⟨k0, 0, none⟩)]) w = .ok (.enter 131 #[.agg #[.int .i64 d], .pointer (some ⟨k0, 0, none⟩)]) w := fun _ => by kernel_rfl
  refine wp_region_held_drew (S := fun w' => w'.cell? ⟨w.heap.size, 0, none⟩ = some (.int .i64 d) ∧ w'.cell? ⟨b, 5, none⟩ = some (.slice (some ⟨g, 0, none⟩) (L + 1) cap) ∧ w'.cell? ⟨g, 0, none⟩ = some (.pointer (some ⟨k0, 0, none⟩)) ∧ Hid (Add w w')) (by kernel_rfl) ⟨q0, c5', g0', (unhide HA).drew⟩ (fun hHeld => ?_)
  refine tka 0 11 rfl ?_
  refine tka 1 12 rfl ?_
  refine tka 2 13 rfl ?_
  refine tka 3 14 rfl ?_
  refine tka 4 15 rfl ?_
  refine tka 5 16 rfl ?_
  refine tka 6 17 rfl ?_
  simp only [List.setIfInBounds_toArray, List.set_cons_zero, List.set_cons_succ]
  refine wpAnyH_ready (rs := [7]) (by kernel_rfl) (by simp) ?_
  refine AllReadyH.cons (o := { dst := some 18, op := _, type := _, pos := _, after := _, guard := _ }) rfl (fun K hK => ?_) AllReadyH.nil
  refine step_enterW (by kernel_rfl) (by simp [Act.eval, ent0, go_sem]) ((unhide HC0 _ (unhide hHeld.2.2.2)).mono ?_)
  rintro e wc0 ⟨rfl, hac0⟩
  refine hK.out _ _ ⟨hac0.cellk hHeld.1, hac0.cellk hHeld.2.1, hac0.cellk hHeld.2.2.1, (unhide hHeld.2.2.2).tr hac0⟩ (fun hHeld7 => ?_)
  clear hK K
  simp only [Act.put, List.setIfInBounds_toArray, List.set_cons_zero, List.set_cons_succ]
  refine tkb 8 19 rfl ?_
  refine tkb 9 20 rfl ?_
  refine tka 10 4 rfl ?_
  simp only [List.setIfInBounds_toArray, List.set_cons_zero, List.set_cons_succ]
  refine wpAnyH_done (by kernel_rfl) ?_ _
  go_wp2_with fail
  go_ret
  rw [unhide HX]
  exact ⟨rfl, (unhide hHeld7.2.2.2)⟩
set_option maxRecDepth 100000 in
set_option maxHeartbeats 8000000 in
theorem wr_choice_two {R : Wr} {f D : Nat} (hW : WB R f D) {w : World} (hg : SG w) {b d : Nat} {t : Tree} (hn : Nd w b t) (hx : Wx t) (hm : t.many ≤ f + 1) (hd : d + 1 ≤ D) {c bl : Tree} (ek : t.kids = [c, bl]) (hv : vK c) (h7 : bl.kind = 7) :
    Calls Tryz.prog 133 #[.agg #[.int .i64 d], .pointer (some ⟨b, 0, none⟩)] w fun e w' => e = .returned (.string (xIf R d t)) ∧ Add w w' := by
  obtain ⟨g, cap, k0, hcap, hmx, c5, g0, n0, hrest⟩ := hn.one ek
  have HC0 := hide fun (w1 : World) (ha : Add w w1) => wr_guarded hW (hg.add ha) (d := d) (hn.add ha) hx hm hd ek hv h7
  have hzg : (xGuard R d t).size ≤ 100000000 := by
    have a1 := sz_val hW hx hm hd (k := c) (by rw [ek]; simp) hv 1
    have a2 := sz_bl hW hx hm hd (p := bl) (by rw [ek]; simp) h7
    unfold xGuard
    rw [kid0 ek, kid1 ek]
    simp only [ByteArray.size_append, bsz, List.size_toArray, List.length_cons, List.length_nil]
    omega
  have c5 : w.cell? ⟨b, 5, none⟩ = some (.slice (some ⟨g, 0, none⟩) 2 cap) := c5
  have ha0 := (Add.refl w).alloc (.cells #[.int .i64 d] 89)
  have q0 : (w.alloc (.cells #[.int .i64 d] 89)).cell? ⟨w.heap.size, 0, none⟩ = some (.int .i64 d) := hcell (hnew _ _) 0
  have c5' : (w.alloc (.cells #[.int .i64 d] 89)).cell? ⟨b, 5, none⟩ = some (.slice (some ⟨g, 0, none⟩) 2 cap) := ha0.cellk c5
  have HX := hide (show xIf R d t = (⟨#[105, 102, 32]⟩ ++ xGuard R d t) by unfold xIf; rw [if_neg (by rw [ek]; simp)])
  have HA := hide ha0
  clear hn hx hm hd hg hW n0 hrest c5 g0 ha0
  generalize xGuard R d t = X0 at *
  go_enter Tryz.func133, Tryz.ntmps133
  go_wp2_with fail
  refine (unhide HC0 _ (unhide HA)).mono ?_
  rintro e wc0 ⟨rfl, hac0⟩
  have HAC0 := hide ((unhide HA).tr hac0)
  have c6 := hac0.cellk c5'
  clear hac0
  go_wp2_with fail
  go_ret
  rw [unhide HX]
  exact ⟨rfl, unhide HAC0⟩
set_option maxRecDepth 100000 in
set_option maxHeartbeats 8000000 in
theorem wr_choice_three {R : Wr} {f D : Nat} (hW : WB R f D) {w : World} (hg : SG w) {b d : Nat} {t : Tree} (hn : Nd w b t) (hx : Wx t) (hm : t.many ≤ f + 1) (hd : d + 1 ≤ D) {c bl el : Tree} (ek : t.kids = [c, bl, el]) (hv : vK c) (h7 : bl.kind = 7) (he : el.kind = 7) :
    Calls Tryz.prog 133 #[.agg #[.int .i64 d], .pointer (some ⟨b, 0, none⟩)] w fun e w' => e = .returned (.string (xIf R d t)) ∧ Add w w' := by
  obtain ⟨g, cap, k0, hcap, hmx, c5, g0, n0, hrest⟩ := hn.one ek
  have HC0 := hide fun (w1 : World) (ha : Add w w1) => wr_guarded hW (hg.add ha) (d := d) (hn.add ha) hx hm hd ek hv h7
  have hzg : (xGuard R d t).size ≤ 100000000 := by
    have a1 := sz_val hW hx hm hd (k := c) (by rw [ek]; simp) hv 1
    have a2 := sz_bl hW hx hm hd (p := bl) (by rw [ek]; simp) h7
    unfold xGuard
    rw [kid0 ek, kid1 ek]
    simp only [ByteArray.size_append, bsz, List.size_toArray, List.length_cons, List.length_nil]
    omega
  have c5 : w.cell? ⟨b, 5, none⟩ = some (.slice (some ⟨g, 0, none⟩) 3 cap) := c5
  obtain ⟨k2, g2, n2⟩ := hrest 1 _ rfl
  obtain ⟨vb, b5, rb⟩ := n2.kids
  have hd3 : d ≤ 3000 := by have := hW.D; omega
  have HC1 := hide fun (w1 : World) (_ : Add w w1) => ahead_any d hd3 w1
  have HC2 := hide fun (w1 : World) (ha : Add w w1) => braces_any hW (hg.add ha) (d := d) (rb.add ha) (block_ok hx hm (by rw [ek]; simp) he) (many_in hW.f hm (by rw [ek]; simp)) hd
  have hz1 : (xIn d).size ≤ 6000 := by rw [xIn_len]; omega
  have hz2 := sz_bl hW hx hm hd (p := el) (by rw [ek]; simp) he
  have ha0 := (Add.refl w).alloc (.cells #[.int .i64 d] 89)
  have q0 : (w.alloc (.cells #[.int .i64 d] 89)).cell? ⟨w.heap.size, 0, none⟩ = some (.int .i64 d) := hcell (hnew _ _) 0
  have c5' : (w.alloc (.cells #[.int .i64 d] 89)).cell? ⟨b, 5, none⟩ = some (.slice (some ⟨g, 0, none⟩) 3 cap) := ha0.cellk c5
  have g2' : (w.alloc (.cells #[.int .i64 d] 89)).cell? ⟨g, 2, none⟩ = some (.pointer (some ⟨k2, 0, none⟩)) := ha0.cellk g2
  have b5' : (w.alloc (.cells #[.int .i64 d] 89)).cell? ⟨k2, 5, none⟩ = some (vb) := ha0.cellk b5
  have HX := hide (show xIf R d t = ((⟨#[105, 102, 32]⟩ ++ xGuard R d t) ++ (((⟨#[10]⟩ ++ xIn d) ++ ⟨#[101, 108, 115, 101, 32]⟩) ++ xBraces R d el.kids)) by unfold xIf; rw [kid2 ek, if_pos (by rw [ek]; simp)])
  have HA := hide ha0
  clear hn hx hm hd hg hW n0 n2 rb hrest c5 g0 g2 b5 ha0
  generalize xGuard R d t = X0 at *
  generalize xIn d = X1 at *
  generalize xBraces R d el.kids = X2 at *
  go_enter Tryz.func133, Tryz.ntmps133
  go_wp2_with fail
  refine (unhide HC0 _ (unhide HA)).mono ?_
  rintro e wc0 ⟨rfl, hac0⟩
  have HAC0 := hide ((unhide HA).tr hac0)
  have y0 := hac0.cellk q0
  have y1 := hac0.cellk c5'
  have y2 := hac0.cellk g2'
  have y3 := hac0.cellk b5'
  clear hac0
  clear q0 c5' g2' b5'
  go_wp2_with fail
  have ent0 : ∀ w : World, Sem.run Tryz.prog (callFunc 78 #[.agg #[.int .i64 d]]) w = .ok (.enter 78 #[.agg #[.int .i64 d]]) w := fun _ => by kernel_rfl
  have ent1 : ∀ w : World, Sem.run Tryz.prog (callFunc 129 #[.agg #[.int .i64 d], vb]) w = .ok (.enter 129 #[.agg #[.int .i64 d], vb]) w := fun _ => by kernel_rfl
  refine wp_region_held_drew (S := fun w' => w'.cell? ⟨w.heap.size, 0, none⟩ = some (.int .i64 d) ∧ w'.cell? ⟨b, 5, none⟩ = some (.slice (some ⟨g, 0, none⟩) 3 cap) ∧ w'.cell? ⟨g, 2, none⟩ = some (.pointer (some ⟨k2, 0, none⟩)) ∧ w'.cell? ⟨k2, 5, none⟩ = some (vb) ∧ Hid (Add w w')) (by kernel_rfl) ⟨y0, y1, y2, y3, (unhide HAC0).drew⟩ (fun hHeld => ?_)
  refine tka 0 16 rfl ?_
  refine tka 1 17 rfl ?_
  refine tka 5 21 rfl ?_
  refine tka 6 22 rfl ?_
  refine tka 7 23 rfl ?_
  refine tka 8 24 rfl ?_
  refine tka 9 25 rfl ?_
  refine tka 10 26 rfl ?_
  refine tka 11 27 rfl ?_
  refine tka 12 28 rfl ?_
  simp only [List.setIfInBounds_toArray, List.set_cons_zero, List.set_cons_succ]
  refine tka 13 29 rfl ?_
  refine tka 14 30 rfl ?_
  simp only [List.setIfInBounds_toArray, List.set_cons_zero, List.set_cons_succ]
  refine wpAnyH_ready (rs := [2]) (by kernel_rfl) (by simp) ?_
  refine AllReadyH.cons (o := { dst := some 18, op := _, type := _, pos := _, after := _, guard := _ }) rfl (fun K hK => ?_) AllReadyH.nil
  refine step_enterW (by kernel_rfl) (by simp [Act.eval, ent0, go_sem]) ((unhide HC1 _ (unhide hHeld.2.2.2.2)).mono ?_)
  rintro e wc0 ⟨rfl, hac0⟩
  refine hK.out _ _ ⟨hac0.cellk hHeld.1, hac0.cellk hHeld.2.1, hac0.cellk hHeld.2.2.1, hac0.cellk hHeld.2.2.2.1, (unhide hHeld.2.2.2.2).tr hac0⟩ (fun hHeld2 => ?_)
  clear hK K
  simp only [Act.put, List.setIfInBounds_toArray, List.set_cons_zero, List.set_cons_succ]
  refine tkb 3 19 rfl ?_
  refine tkb 4 20 rfl ?_
  simp only [List.setIfInBounds_toArray, List.set_cons_zero, List.set_cons_succ]
  refine wpAnyH_ready (rs := [15]) (by kernel_rfl) (by simp) ?_
  refine AllReadyH.cons (o := { dst := some 31, op := _, type := _, pos := _, after := _, guard := _ }) rfl (fun K hK => ?_) AllReadyH.nil
  refine step_enterW (by kernel_rfl) (by simp [Act.eval, ent1, go_sem]) ((unhide HC2 _ (unhide hHeld2.2.2.2.2)).mono ?_)
  rintro e wc1 ⟨rfl, hac1⟩
  refine hK.out _ _ ⟨hac1.cellk hHeld2.1, hac1.cellk hHeld2.2.1, hac1.cellk hHeld2.2.2.1, hac1.cellk hHeld2.2.2.2.1, (unhide hHeld2.2.2.2.2).tr hac1⟩ (fun hHeld15 => ?_)
  clear hK K
  simp only [Act.put, List.setIfInBounds_toArray, List.set_cons_zero, List.set_cons_succ]
  refine tkb 16 32 rfl ?_
  refine tkb 17 33 rfl ?_
  refine tka 18 5 rfl ?_
  simp only [List.setIfInBounds_toArray, List.set_cons_zero, List.set_cons_succ]
  refine wpAnyH_done (by kernel_rfl) ?_ _
  go_wp2_with fail
  go_ret
  rw [unhide HX]
  exact ⟨rfl, (unhide hHeld15.2.2.2.2)⟩
end Go.Proofs.YtndgajlidckcdaaGreatDoor
