/-
  An object without fields is laid, in general.
  Objects that move, as plain data: what goes where, and that it stays the same.
-/
import Derived.Test.YtddfdefgdlfpmaaM07
namespace Go.Proofs.Ytddfdefgdlfpmaa
open Go.RowKit

set_option maxRecDepth 100000 in
set_option maxHeartbeats 4000000 in
theorem add_none {B : Nat} {w : World} {b o : Nat} {cs : Array Value} {T : TypeId} {f : Int} {l : List HO} {vo vf : Value} (h : PtB B w b o cs T f l vo vf) (hB : B ≤ w.heap.size) (x : HO) (hx0 : x.fs = []) (hxn : x.noted = false) (bg : Int) (nt : Bool) {q : Option Addr} {c : Nat} (hf0 : 0 ≤ f) (hf1 : f + 2 * l.length + 2 ≤ 4611686018427387904) (hfo : l.length + 1 ≤ 10000000) (ho : o + 2 < cs.size) :
    Calls Try.prog 18 #[.pointer (some ⟨b, o, none⟩), .agg #[.int .i64 x.kind, .int .i64 x.tag, .int .i64 x.id, .int .i64 bg, .int .i64 0, .bool nt], .slice q 0 c] w fun e w' => AddG B w b o cs T f l x vo vf e w' := by
  have KP := hide h
  obtain ⟨gf, cf, hvf⟩ := owns_form h.flds
  have c2 : w.cell? ⟨b, o + 2, none⟩ = some vf := (hcell h.blk (o + 2)).trans h.e2
  have hbl := hlt h.blk
  subst hvf
  have HX0 := hide hx0
  have hfw := h.few
  have HXN := hide hxn
  obtain ⟨i0, hi, hz0, hz1, hz2⟩ := info_parts infoObj
  obtain ⟨i1, hi1, hy0, hy1, hy2⟩ := info_parts infoVal
  clear h hx0 hxn
  go_enter Try.func18, Try.ntmps18
  go_wp2_with fail
  have HW0 := hide (hnew w (.cells #[.int .i64 x.kind, .int .i64 x.tag, .int .i64 x.id, .int .i64 (allF l).length, .int .i64 0, .bool false] 56))
  have hba : Below w.heap.size w (w.alloc (.cells #[.int .i64 x.kind, .int .i64 x.tag, .int .i64 x.id, .int .i64 (allF l).length, .int .i64 0, .bool false] 56)) := (Below.refl _ _).alloc (Nat.le_refl _) _
  have HBA := hide hba
  have hs1 : (w.alloc (.cells #[.int .i64 x.kind, .int .i64 x.tag, .int .i64 x.id, .int .i64 (allF l).length, .int .i64 0, .bool false] 56)).heap.size = w.heap.size + 1 := by simp
  generalize w.alloc (.cells #[.int .i64 x.kind, .int .i64 x.tag, .int .i64 x.id, .int .i64 (allF l).length, .int .i64 0, .bool false] 56) = W at *
  clear c2 hba
  have HS1 := hide hs1
  have HBLK := hide (((unhide HBA).block b (hlt (unhide KP).blk)).trans (unhide KP).blk)
  have c1 : W.cell? ⟨b, o + 1, none⟩ = some vo := (hcell (unhide HBLK) (o + 1)).trans (unhide KP).e1
  have d1 := cell_al c1
  have HO := hide (owns_keep (owns_keep (unhide KP).objs (unhide HBA)) ((Below.refl _ _).alloc (Nat.le_refl _) (.cells #[.int .i64 x.kind, .int .i64 x.tag, .int .i64 x.id, .int .i64 (allF l).length, .int .i64 0, .bool false] 56)))
  have HVT := hide (owns_type (unhide KP).objs)
  have HFT := hide (owns_type (unhide KP).flds)
  clear hs1
  refine wp_region_held_drew (S := (fun w' => w'.cell? ⟨w.heap.size, 0, none⟩ = some (.int .i64 x.kind) ∧ w'.cell? ⟨w.heap.size, 1, none⟩ = some (.int .i64 x.tag) ∧ w'.cell? ⟨w.heap.size, 2, none⟩ = some (.int .i64 x.id) ∧ w'.cell? ⟨w.heap.size, 3, none⟩ = some (.int .i64 (allF l).length) ∧ w'.cell? ⟨w.heap.size, 4, none⟩ = some (.int .i64 0) ∧ w'.cell? ⟨w.heap.size, 5, none⟩ = some (.bool false))) (by kernel_rfl) ⟨hcell (unhide HW0) 0, hcell (unhide HW0) 1, hcell (unhide HW0) 2, hcell (unhide HW0) 3, hcell (unhide HW0) 4, hcell (unhide HW0) 5⟩ (fun hHeld => ?_)
  refine wpAnyH_take (i := 0) (oi := { dst := some 14, op := _, type := _, pos := _, after := _, guard := _ }) (v := ?_) rfl (by kernel_rfl) (by kernel_rfl) (by kernel_rfl) (fun _ _ _ h => h) (Or.inl ⟨by rfl, ?_⟩) (by assumption) ?_
  case refine_2 =>
    intro w hSw
    try dsimp only at hSw
    go_simp
    try with_reducible rfl
  simp only [Act.put, List.setIfInBounds_toArray, List.set_cons_zero, List.set_cons_succ]
  refine wpAnyH_take (i := 1) (oi := { dst := some 15, op := _, type := _, pos := _, after := _, guard := _ }) (v := ?_) rfl (by kernel_rfl) (by kernel_rfl) (by kernel_rfl) (fun _ _ _ h => h) (Or.inl ⟨by rfl, ?_⟩) (by assumption) ?_
  case refine_2 =>
    intro w hSw
    try dsimp only at hSw
    go_simp
    try with_reducible rfl
  simp only [Act.put, List.setIfInBounds_toArray, List.set_cons_zero, List.set_cons_succ]
  refine wpAnyH_take (i := 2) (oi := { dst := some 16, op := _, type := _, pos := _, after := _, guard := _ }) (v := ?_) rfl (by kernel_rfl) (by kernel_rfl) (by kernel_rfl) (fun _ _ _ h => h) (Or.inl ⟨by rfl, ?_⟩) (by assumption) ?_
  case refine_2 =>
    intro w hSw
    try dsimp only at hSw
    go_simp
    try with_reducible rfl
  simp only [Act.put, List.setIfInBounds_toArray, List.set_cons_zero, List.set_cons_succ]
  refine wpAnyH_take (i := 3) (oi := { dst := some 17, op := _, type := _, pos := _, after := _, guard := _ }) (v := ?_) rfl (by kernel_rfl) (by kernel_rfl) (by kernel_rfl) (fun _ _ _ h => h) (Or.inl ⟨by rfl, ?_⟩) (by assumption) ?_
  case refine_2 =>
    intro w hSw
    try dsimp only at hSw
    go_simp
    try with_reducible rfl
  simp only [Act.put, List.setIfInBounds_toArray, List.set_cons_zero, List.set_cons_succ]
  refine wpAnyH_take (i := 5) (oi := { dst := some 19, op := _, type := _, pos := _, after := _, guard := _ }) (v := ?_) rfl (by kernel_rfl) (by kernel_rfl) (by kernel_rfl) (fun _ _ _ h => h) (Or.inl ⟨by rfl, ?_⟩) (by assumption) ?_
  case refine_2 =>
    intro w hSw
    try dsimp only at hSw
    go_simp
    try with_reducible rfl
  simp only [Act.put, List.setIfInBounds_toArray, List.set_cons_zero, List.set_cons_succ]
  refine wpAnyH_ready (rs := [4, 6]) (by kernel_rfl) (by simp) ?_
  refine AllReadyH.cons (o := { dst := some 18, op := _, type := _, pos := _, after := _, guard := _ }) rfl (fun K hK => ?_) ?_
  · go_simp
    refine hK.out _ _ (by assumption) (fun hHeld4 => ?_)
    clear hK K
    refine wpAnyH_ready (rs := [6]) (by kernel_rfl) (by simp) ?_
    refine AllReadyH.cons (o := { dst := some 20, op := _, type := _, pos := _, after := _, guard := _ }) rfl (fun K hK => ?_) AllReadyH.nil
    go_simp
    refine hK.out _ _ ⟨cell_al (hcell (unhide HW0) 0) _, cell_al (hcell (unhide HW0) 1) _, cell_al (hcell (unhide HW0) 2) _, cell_al (hcell (unhide HW0) 3) _, cell_al (hcell (unhide HW0) 4) _, cell_al (hcell (unhide HW0) 5) _⟩ (fun hHeld6 => ?_)
    clear hK K
    refine wpAnyH_ready (rs := [7]) (by kernel_rfl) (by simp) ?_
    refine AllReadyH.cons (o := { dst := some 21, op := _, type := _, pos := _, after := _, guard := _ }) rfl (fun K hK => ?_) AllReadyH.nil
    refine step_append_lies _ (by rfl) _ _ _ (by rfl) B 56 i0 (.agg #[.int .i64 0, .int .i64 0, .int .i64 0, .int .i64 0, .int .i64 0, .bool false]) 6 48 Try.underlying46 hi hz0 hz1 hz2 rfl (by decide) vo l.length (rowO 0 l) (by rfl) (unhide HO) ⟨W.heap.size, 0, none⟩ 1 1 [.int .i64 x.kind, .int .i64 x.tag, .int .i64 x.id, .int .i64 (allF l).length, .int .i64 0, .bool false] (by rfl) rfl (news_at (by simp) _ _) (one_cells _ _ _ _ _ _) (by decide) (by unfold maxLen; omega) (by omega) (by have := unhide HS1; simp; omega) (W.heap.size + 1) (by simp) ?_
    intro g cap w3 hown hgrow hat hlt3
    have hold : ∀ j, j < W.heap.size → vo.ownBlock ≠ some j → w3.heap[j]? = W.heap[j]? := fun j hj hv => (hgrow.block j (by simp; omega) (fun q => hv q.symm)).trans (Below.heap_alloc _ _ _ hj)
    have hnv : vo.ownBlock ≠ some w.heap.size := fun q => by have := (unhide HVT _ q).2.1; omega
    have hbv : vo.ownBlock ≠ some b := fun q => by
      obtain ⟨_, _, cs', q3⟩ := unhide HVT _ q
      rw [(unhide KP).blk] at q3
      cases q3
      exact (unhide KP).tO rfl
    have hnb := (hold w.heap.size (by have := unhide HS1; omega) hnv).trans (unhide HW0)
    have hhb := (hold b (hlt (unhide HBLK)) hbv).trans (unhide HBLK)
    have z1 : w3.cell? ⟨b, o + 1, none⟩ = some vo := (hcell hhb (o + 1)).trans (unhide KP).e1
    have y1 := hfroz hhb (o + 1)
    have HHB := hide hhb
    have HOWN := hide hown
    have HOLD := hide hold
    have HGR := hide (show w3.os = w.os ∧ w3.tape = w.tape ∧ w3.output = w.output ∧ w.heap.size ≤ w3.heap.size from ⟨hgrow.os.trans (unhide HBA).os, hgrow.tape.trans (unhide HBA).tape, hgrow.output.trans (unhide HBA).output, by have := hgrow.size; have := unhide HS1; simp at *; omega⟩)
    have HAT := hide hat
    have hbn : b ≠ w.heap.size := by omega
    have s4 : ∀ u, (w3.setCell ⟨b, o + 1, none⟩ u).heap[w.heap.size]? = _ := fun u => (hother u (Ne.symm hbn)).trans hnb
    clear hown hgrow hat hlt3 hold hhb hnv hbv
    refine hK.out _ _ ⟨hcell hnb 0, hcell hnb 1, hcell hnb 2, hcell hnb 3, hcell hnb 4, hcell hnb 5⟩ (fun hHeldA => ?_)
    clear hK K
    simp only [Act.put, List.setIfInBounds_toArray, List.set_cons_zero, List.set_cons_succ]
    refine wpAnyH_take (i := 8) (oi := { dst := some 22, op := _, type := _, pos := _, after := _, guard := _ }) (v := ?_) rfl (by kernel_rfl) (by kernel_rfl) (by kernel_rfl) (fun _ _ _ h => h) (Or.inl ⟨by rfl, ?_⟩) (by assumption) ?_
    case refine_2 =>
      intro w hSw
      try dsimp only at hSw
      go_simp
      try with_reducible rfl
    simp only [Act.put, List.setIfInBounds_toArray, List.set_cons_zero, List.set_cons_succ]
    refine wpAnyH_take (i := 9) (oi := { dst := some 23, op := _, type := _, pos := _, after := _, guard := _ }) (v := ?_) rfl (by kernel_rfl) (by kernel_rfl) (by kernel_rfl) (fun _ _ _ h => h) (Or.inl ⟨by rfl, ?_⟩) (by assumption) ?_
    case refine_2 =>
      intro w hSw
      try dsimp only at hSw
      go_simp
      try with_reducible rfl
    simp only [Act.put, List.setIfInBounds_toArray, List.set_cons_zero, List.set_cons_succ]
    refine wpAnyH_ready (rs := [10]) (by kernel_rfl) (by simp) ?_
    refine AllReadyH.cons (o := { dst := none, op := _, type := _, pos := _, after := _, guard := _ }) rfl (fun K hK => ?_) AllReadyH.nil
    go_simp
    refine hK.out _ _ ⟨hcell (s4 _) 0, hcell (s4 _) 1, hcell (s4 _) 2, hcell (s4 _) 3, hcell (s4 _) 4, hcell (s4 _) 5⟩ (fun hHeldS => ?_)
    clear hK K
    refine wpAnyH_done (by kernel_rfl) ?_ _
    clear z1 y1 s4 hHeldS
    obtain ⟨v4, hv4⟩ : ∃ v4, (Value.slice (some ⟨g, 0, none⟩) (l.length + 1) cap) = v4 := ⟨_, rfl⟩
    have hblk4 := hset (unhide HHB) (o + 1) v4
    have hfr4 : ∀ j, j < w.heap.size → j ≠ b → vo.ownBlock ≠ some j → (w3.setCell ⟨b, o + 1, none⟩ v4).heap[j]? = w.heap[j]? := fun j hj hjb hjv => (hother v4 hjb).trans ((unhide HOLD j (by have := unhide HS1; omega) hjv).trans ((unhide HBA).block j hj))
    have hvfb : ∀ j, (Value.slice gf (allF l).length cf).ownBlock = some j → j ≠ b ∧ vo.ownBlock ≠ some j := fun j hj => by
      obtain ⟨_, _, cs', q3⟩ := unhide HFT j hj
      refine ⟨fun q => ?_, fun q => ?_⟩
      · subst q
        rw [(unhide KP).blk] at q3
        cases q3
        exact (unhide KP).tV rfl
      · obtain ⟨_, _, cs'', q4⟩ := unhide HVT j q
        rw [q3] at q4
        cases q4
    have HFL4 := hide (owns_move (w' := w3.setCell ⟨b, o + 1, none⟩ v4) (unhide KP).flds fun j hj => hfr4 j (unhide HFT j hj).2.1 (hvfb j hj).1 (hvfb j hj).2)
    have HOB4 : Hid ((w3.setCell ⟨b, o + 1, none⟩ v4).ownsRow B 56 6 v4 (l.length + 1) (rowO 0 l ++ [.int .i64 x.kind, .int .i64 x.tag, .int .i64 x.id, .int .i64 (allF l).length, .int .i64 0, .bool false])) := by
      rw [← hv4]
      refine owns_move (unhide HOWN) fun j hj => hother _ fun q => ?_
      subst q
      obtain ⟨_, _, cs', q3⟩ := owns_type (unhide HOWN) j hj
      rw [unhide HHB] at q3
      cases q3
      exact (unhide KP).tO rfl
    have hsz4 : w.heap.size ≤ (w3.setCell ⟨b, o + 1, none⟩ v4).heap.size := by have := (unhide HGR).2.2.2; simpa [World.setCell] using this
    have c42 : (w3.setCell ⟨b, o + 1, none⟩ v4).cell? ⟨b, o + 2, none⟩ = some (.slice gf (allF l).length cf) := by
      rw [hcell hblk4 (o + 2), Array.getElem?_setIfInBounds_ne (by omega)]
      exact (unhide KP).e2
    have HG4 := hide (show (w3.setCell ⟨b, o + 1, none⟩ v4).os = w.os ∧ (w3.setCell ⟨b, o + 1, none⟩ v4).tape = w.tape ∧ (w3.setCell ⟨b, o + 1, none⟩ v4).output = w.output from ⟨(unhide HGR).1, (unhide HGR).2.1, (unhide HGR).2.2.1⟩)
    rw [hv4]
    have HV4 := hide hv4
    have HBLK4 := hide hblk4
    have HFR4 := hide hfr4
    have HVFB := hide hvfb
    generalize w3.setCell ⟨b, o + 1, none⟩ v4 = w4 at *
    clear hblk4 hfr4 hvfb hv4
    have hblk6 := hset (unhide HBLK4) (o + 2) (.slice gf (allF l).length cf)
    have e1 : w4.cell? ⟨b, o + 1, none⟩ = some (.slice (some ⟨g, 0, none⟩) (l.length + 1) cap) := by
      rw [hcell (unhide HBLK4) (o + 1), unhide HV4]
      simp [show o + 1 < cs.size by omega]
    have y2 := hfroz (unhide HBLK4) (o + 2)
    have e6 : (w4.setCell ⟨b, o + 2, none⟩ (.slice gf (allF l).length cf)).cell? ⟨b, o, none⟩ = some (.int .i64 f) := by
      rw [hcell hblk6 o, Array.getElem?_setIfInBounds_ne (by omega), Array.getElem?_setIfInBounds_ne (by omega)]
      exact (unhide KP).e0
    have HPT : Hid (PtB B (w4.setCell ⟨b, o + 2, none⟩ (.slice gf (allF l).length cf)) b o ((cs.setIfInBounds (o + 1) v4).setIfInBounds (o + 2) (.slice gf (allF l).length cf)) T f (l ++ [x]) v4 (.slice gf (allF l).length cf)) := by
      have hal : (allF (l ++ [x])).length = (allF l).length := by rw [allF_snoc, unhide HX0]; rfl
      refine ⟨hblk6, ?_, ?_, ?_, ?_, ?_, ?_, ?_, (unhide KP).tO, (unhide KP).tV⟩
      · rw [Array.getElem?_setIfInBounds_ne (by omega), Array.getElem?_setIfInBounds_ne (by omega)]
        exact (unhide KP).e0
      · rw [Array.getElem?_setIfInBounds_ne (by omega)]
        simp [show o + 1 < cs.size by omega]
      · simp [show o + 2 < cs.size by omega]
      · have hk := owns_move (w' := w4.setCell ⟨b, o + 2, none⟩ (.slice gf (allF l).length cf)) (unhide HOB4) fun j hj => by
          obtain ⟨_, hj2, cs', q3⟩ := owns_type (unhide HOB4) j hj
          exact hother _ (fun q => by
            subst q
            rw [unhide HBLK4] at q3
            cases q3
            exact (unhide KP).tO rfl)
        rw [List.length_append, rowO_snoc, show oCells (allF l).length x = [.int .i64 x.kind, .int .i64 x.tag, .int .i64 x.id, .int .i64 (allF l).length, .int .i64 0, .bool false] by simp [oCells, unhide HXN, unhide HX0]]
        exact hk
      · rw [hal, rowF_snoc, unhide HX0]
        simp only [List.flatMap_nil, List.append_nil]
        exact owns_move (unhide HFL4) fun j hj => hother _ (unhide HVFB j hj).1
      · rw [hal]; omega
      · simp; omega
    have HFRA : Hid (FrA b vo (.slice gf (allF l).length cf) w (w4.setCell ⟨b, o + 2, none⟩ (.slice gf (allF l).length cf))) := ⟨(unhide HG4).1, (unhide HG4).2.1, (unhide HG4).2.2, by simp [World.setCell]; omega, fun k hk h1 h2 _ => (hother _ h1).trans (unhide HFR4 k hk h1 h2)⟩
    have HW1 : Hid (v4.ownBlock = vo.ownBlock ∨ ∀ j, v4.ownBlock = some j → w.heap.size ≤ j) := by
      rw [← unhide HV4]
      rcases unhide HAT with q | q
      · exact Or.inl q.symm
      · refine Or.inr fun j hj => ?_
        simp only [Value.ownBlock, Option.some.injEq] at hj
        have := unhide HS1
        omega
    have wl : IntKind.i64.wrap (l.length : Int) = (l.length : Int) := wrap_id (by omega) (by omega)
    have HE6 := hide e6
    clear hblk6 e6
    go_wp2_with (at_builtin; refine wpList_append_zero rfl _ _ _ rfl Try.underlying29 hi1 rfl (unhide HFL4) rfl ?_)
    refine (address_any (unhide HE6) (i := l.length) hf0 (by omega)).mono ?_
    rintro e w7 ⟨rfl, rfl⟩
    go_wp2_with fail
    go_ret
    exact ⟨rfl, v4, _, unhide HPT, unhide HFRA, unhide HW1, Or.inl rfl⟩
  refine AllReadyH.cons (o := { dst := some 20, op := _, type := _, pos := _, after := _, guard := _ }) rfl (fun K hK => ?_) AllReadyH.nil
  go_simp
  refine hK.out _ _ ⟨cell_al (hcell (unhide HW0) 0) _, cell_al (hcell (unhide HW0) 1) _, cell_al (hcell (unhide HW0) 2) _, cell_al (hcell (unhide HW0) 3) _, cell_al (hcell (unhide HW0) 4) _, cell_al (hcell (unhide HW0) 5) _⟩ (fun hHeld6 => ?_)
  clear hK K
  refine wpAnyH_ready (rs := [4]) (by kernel_rfl) (by simp) ?_
  refine AllReadyH.cons (o := { dst := some 18, op := _, type := _, pos := _, after := _, guard := _ }) rfl (fun K hK => ?_) AllReadyH.nil
  go_simp
  refine hK.out _ _ (by assumption) (fun hHeld4 => ?_)
  clear hK K
  refine wpAnyH_ready (rs := [7]) (by kernel_rfl) (by simp) ?_
  refine AllReadyH.cons (o := { dst := some 21, op := _, type := _, pos := _, after := _, guard := _ }) rfl (fun K hK => ?_) AllReadyH.nil
  refine step_append_lies _ (by rfl) _ _ _ (by rfl) B 56 i0 (.agg #[.int .i64 0, .int .i64 0, .int .i64 0, .int .i64 0, .int .i64 0, .bool false]) 6 48 Try.underlying46 hi hz0 hz1 hz2 rfl (by decide) vo l.length (rowO 0 l) (by rfl) (unhide HO) ⟨W.heap.size, 0, none⟩ 1 1 [.int .i64 x.kind, .int .i64 x.tag, .int .i64 x.id, .int .i64 (allF l).length, .int .i64 0, .bool false] (by rfl) rfl (news_at (by simp) _ _) (one_cells _ _ _ _ _ _) (by decide) (by unfold maxLen; omega) (by omega) (by have := unhide HS1; simp; omega) (W.heap.size + 1) (by simp) ?_
  intro g cap w3 hown hgrow hat hlt3
  have hold : ∀ j, j < W.heap.size → vo.ownBlock ≠ some j → w3.heap[j]? = W.heap[j]? := fun j hj hv => (hgrow.block j (by simp; omega) (fun q => hv q.symm)).trans (Below.heap_alloc _ _ _ hj)
  have hnv : vo.ownBlock ≠ some w.heap.size := fun q => by have := (unhide HVT _ q).2.1; omega
  have hbv : vo.ownBlock ≠ some b := fun q => by
    obtain ⟨_, _, cs', q3⟩ := unhide HVT _ q
    rw [(unhide KP).blk] at q3
    cases q3
    exact (unhide KP).tO rfl
  have hnb := (hold w.heap.size (by have := unhide HS1; omega) hnv).trans (unhide HW0)
  have hhb := (hold b (hlt (unhide HBLK)) hbv).trans (unhide HBLK)
  have z1 : w3.cell? ⟨b, o + 1, none⟩ = some vo := (hcell hhb (o + 1)).trans (unhide KP).e1
  have y1 := hfroz hhb (o + 1)
  have HHB := hide hhb
  have HOWN := hide hown
  have HOLD := hide hold
  have HGR := hide (show w3.os = w.os ∧ w3.tape = w.tape ∧ w3.output = w.output ∧ w.heap.size ≤ w3.heap.size from ⟨hgrow.os.trans (unhide HBA).os, hgrow.tape.trans (unhide HBA).tape, hgrow.output.trans (unhide HBA).output, by have := hgrow.size; have := unhide HS1; simp at *; omega⟩)
  have HAT := hide hat
  have hbn : b ≠ w.heap.size := by omega
  have s4 : ∀ u, (w3.setCell ⟨b, o + 1, none⟩ u).heap[w.heap.size]? = _ := fun u => (hother u (Ne.symm hbn)).trans hnb
  clear hown hgrow hat hlt3 hold hhb hnv hbv
  refine hK.out _ _ ⟨hcell hnb 0, hcell hnb 1, hcell hnb 2, hcell hnb 3, hcell hnb 4, hcell hnb 5⟩ (fun hHeldA => ?_)
  clear hK K
  simp only [Act.put, List.setIfInBounds_toArray, List.set_cons_zero, List.set_cons_succ]
  refine wpAnyH_take (i := 8) (oi := { dst := some 22, op := _, type := _, pos := _, after := _, guard := _ }) (v := ?_) rfl (by kernel_rfl) (by kernel_rfl) (by kernel_rfl) (fun _ _ _ h => h) (Or.inl ⟨by rfl, ?_⟩) (by assumption) ?_
  case refine_2 =>
    intro w hSw
    try dsimp only at hSw
    go_simp
    try with_reducible rfl
  simp only [Act.put, List.setIfInBounds_toArray, List.set_cons_zero, List.set_cons_succ]
  refine wpAnyH_take (i := 9) (oi := { dst := some 23, op := _, type := _, pos := _, after := _, guard := _ }) (v := ?_) rfl (by kernel_rfl) (by kernel_rfl) (by kernel_rfl) (fun _ _ _ h => h) (Or.inl ⟨by rfl, ?_⟩) (by assumption) ?_
  case refine_2 =>
    intro w hSw
    try dsimp only at hSw
    go_simp
    try with_reducible rfl
  simp only [Act.put, List.setIfInBounds_toArray, List.set_cons_zero, List.set_cons_succ]
  refine wpAnyH_ready (rs := [10]) (by kernel_rfl) (by simp) ?_
  refine AllReadyH.cons (o := { dst := none, op := _, type := _, pos := _, after := _, guard := _ }) rfl (fun K hK => ?_) AllReadyH.nil
  go_simp
  refine hK.out _ _ ⟨hcell (s4 _) 0, hcell (s4 _) 1, hcell (s4 _) 2, hcell (s4 _) 3, hcell (s4 _) 4, hcell (s4 _) 5⟩ (fun hHeldS => ?_)
  clear hK K
  refine wpAnyH_done (by kernel_rfl) ?_ _
  clear z1 y1 s4 hHeldS
  obtain ⟨v4, hv4⟩ : ∃ v4, (Value.slice (some ⟨g, 0, none⟩) (l.length + 1) cap) = v4 := ⟨_, rfl⟩
  have hblk4 := hset (unhide HHB) (o + 1) v4
  have hfr4 : ∀ j, j < w.heap.size → j ≠ b → vo.ownBlock ≠ some j → (w3.setCell ⟨b, o + 1, none⟩ v4).heap[j]? = w.heap[j]? := fun j hj hjb hjv => (hother v4 hjb).trans ((unhide HOLD j (by have := unhide HS1; omega) hjv).trans ((unhide HBA).block j hj))
  have hvfb : ∀ j, (Value.slice gf (allF l).length cf).ownBlock = some j → j ≠ b ∧ vo.ownBlock ≠ some j := fun j hj => by
    obtain ⟨_, _, cs', q3⟩ := unhide HFT j hj
    refine ⟨fun q => ?_, fun q => ?_⟩
    · subst q
      rw [(unhide KP).blk] at q3
      cases q3
      exact (unhide KP).tV rfl
    · obtain ⟨_, _, cs'', q4⟩ := unhide HVT j q
      rw [q3] at q4
      cases q4
  have HFL4 := hide (owns_move (w' := w3.setCell ⟨b, o + 1, none⟩ v4) (unhide KP).flds fun j hj => hfr4 j (unhide HFT j hj).2.1 (hvfb j hj).1 (hvfb j hj).2)
  have HOB4 : Hid ((w3.setCell ⟨b, o + 1, none⟩ v4).ownsRow B 56 6 v4 (l.length + 1) (rowO 0 l ++ [.int .i64 x.kind, .int .i64 x.tag, .int .i64 x.id, .int .i64 (allF l).length, .int .i64 0, .bool false])) := by
    rw [← hv4]
    refine owns_move (unhide HOWN) fun j hj => hother _ fun q => ?_
    subst q
    obtain ⟨_, _, cs', q3⟩ := owns_type (unhide HOWN) j hj
    rw [unhide HHB] at q3
    cases q3
    exact (unhide KP).tO rfl
  have hsz4 : w.heap.size ≤ (w3.setCell ⟨b, o + 1, none⟩ v4).heap.size := by have := (unhide HGR).2.2.2; simpa [World.setCell] using this
  have c42 : (w3.setCell ⟨b, o + 1, none⟩ v4).cell? ⟨b, o + 2, none⟩ = some (.slice gf (allF l).length cf) := by
    rw [hcell hblk4 (o + 2), Array.getElem?_setIfInBounds_ne (by omega)]
    exact (unhide KP).e2
  have HG4 := hide (show (w3.setCell ⟨b, o + 1, none⟩ v4).os = w.os ∧ (w3.setCell ⟨b, o + 1, none⟩ v4).tape = w.tape ∧ (w3.setCell ⟨b, o + 1, none⟩ v4).output = w.output from ⟨(unhide HGR).1, (unhide HGR).2.1, (unhide HGR).2.2.1⟩)
  rw [hv4]
  have HV4 := hide hv4
  have HBLK4 := hide hblk4
  have HFR4 := hide hfr4
  have HVFB := hide hvfb
  generalize w3.setCell ⟨b, o + 1, none⟩ v4 = w4 at *
  clear hblk4 hfr4 hvfb hv4
  have hblk6 := hset (unhide HBLK4) (o + 2) (.slice gf (allF l).length cf)
  have e1 : w4.cell? ⟨b, o + 1, none⟩ = some (.slice (some ⟨g, 0, none⟩) (l.length + 1) cap) := by
    rw [hcell (unhide HBLK4) (o + 1), unhide HV4]
    simp [show o + 1 < cs.size by omega]
  have y2 := hfroz (unhide HBLK4) (o + 2)
  have e6 : (w4.setCell ⟨b, o + 2, none⟩ (.slice gf (allF l).length cf)).cell? ⟨b, o, none⟩ = some (.int .i64 f) := by
    rw [hcell hblk6 o, Array.getElem?_setIfInBounds_ne (by omega), Array.getElem?_setIfInBounds_ne (by omega)]
    exact (unhide KP).e0
  have HPT : Hid (PtB B (w4.setCell ⟨b, o + 2, none⟩ (.slice gf (allF l).length cf)) b o ((cs.setIfInBounds (o + 1) v4).setIfInBounds (o + 2) (.slice gf (allF l).length cf)) T f (l ++ [x]) v4 (.slice gf (allF l).length cf)) := by
    have hal : (allF (l ++ [x])).length = (allF l).length := by rw [allF_snoc, unhide HX0]; rfl
    refine ⟨hblk6, ?_, ?_, ?_, ?_, ?_, ?_, ?_, (unhide KP).tO, (unhide KP).tV⟩
    · rw [Array.getElem?_setIfInBounds_ne (by omega), Array.getElem?_setIfInBounds_ne (by omega)]
      exact (unhide KP).e0
    · rw [Array.getElem?_setIfInBounds_ne (by omega)]
      simp [show o + 1 < cs.size by omega]
    · simp [show o + 2 < cs.size by omega]
    · have hk := owns_move (w' := w4.setCell ⟨b, o + 2, none⟩ (.slice gf (allF l).length cf)) (unhide HOB4) fun j hj => by
        obtain ⟨_, hj2, cs', q3⟩ := owns_type (unhide HOB4) j hj
        exact hother _ (fun q => by
          subst q
          rw [unhide HBLK4] at q3
          cases q3
          exact (unhide KP).tO rfl)
      rw [List.length_append, rowO_snoc, show oCells (allF l).length x = [.int .i64 x.kind, .int .i64 x.tag, .int .i64 x.id, .int .i64 (allF l).length, .int .i64 0, .bool false] by simp [oCells, unhide HXN, unhide HX0]]
      exact hk
    · rw [hal, rowF_snoc, unhide HX0]
      simp only [List.flatMap_nil, List.append_nil]
      exact owns_move (unhide HFL4) fun j hj => hother _ (unhide HVFB j hj).1
    · rw [hal]; omega
    · simp; omega
  have HFRA : Hid (FrA b vo (.slice gf (allF l).length cf) w (w4.setCell ⟨b, o + 2, none⟩ (.slice gf (allF l).length cf))) := ⟨(unhide HG4).1, (unhide HG4).2.1, (unhide HG4).2.2, by simp [World.setCell]; omega, fun k hk h1 h2 _ => (hother _ h1).trans (unhide HFR4 k hk h1 h2)⟩
  have HW1 : Hid (v4.ownBlock = vo.ownBlock ∨ ∀ j, v4.ownBlock = some j → w.heap.size ≤ j) := by
    rw [← unhide HV4]
    rcases unhide HAT with q | q
    · exact Or.inl q.symm
    · refine Or.inr fun j hj => ?_
      simp only [Value.ownBlock, Option.some.injEq] at hj
      have := unhide HS1
      omega
  have wl : IntKind.i64.wrap (l.length : Int) = (l.length : Int) := wrap_id (by omega) (by omega)
  have HE6 := hide e6
  clear hblk6 e6
  go_wp2_with (at_builtin; refine wpList_append_zero rfl _ _ _ rfl Try.underlying29 hi1 rfl (unhide HFL4) rfl ?_)
  refine (address_any (unhide HE6) (i := l.length) hf0 (by omega)).mono ?_
  rintro e w7 ⟨rfl, rfl⟩
  go_wp2_with fail
  go_ret
  exact ⟨rfl, v4, _, unhide HPT, unhide HFRA, unhide HW1, Or.inl rfl⟩
end Go.Proofs.Ytddfdefgdlfpmaa

namespace Go.Proofs.Ytddfdefgdlfpmaa
open Go.RowKit

/-- A part that objects leave: its first address, its objects, and where each one went (0: it has not). -/
structure PL where
  first : Int
  objs : List HO
  went : List Int
def numIn (f : Int) (n : Nat) (a : Int) : Option Nat := if f ≤ a ∧ (a - f) % 2 = 0 ∧ (a - f) / 2 < n then some ((a - f) / 2).toNat else none
theorem numIn_some {f : Int} {n : Nat} {a : Int} {i : Nat} : numIn f n a = some i ↔ i < n ∧ a = f + 2 * i := by
  unfold numIn
  constructor
  · intro h
    split at h
    · cases h
      omega
    · cases h
  · rintro ⟨h1, rfl⟩
    rw [if_pos (by omega)]
    congr 1
    omega
theorem numIn_none {f : Int} {n : Nat} {a : Int} (h : numIn f n a = none) : ∀ i : Nat, i < n → a ≠ f + 2 * i := fun i hi e => by
  rw [numIn_some.2 ⟨hi, e⟩] at h
  cases h
/-- Which part an address leads into, and as which object. -/
def leadsTo : List PL → Nat → Int → Option (Nat × Nat)
  | [], _, _ => none
  | p :: r, j, a => match numIn p.first p.objs.length a with
    | some i => some (j, i)
    | none => leadsTo r (j + 1) a
def objAt (L : List PL) (q : Nat × Nat) : Option HO := (L[q.1]?).bind fun p => p.objs[q.2]?
def goneTo (L : List PL) (q : Nat × Nat) : Int := ((L[q.1]?).bind fun p => p.went[q.2]?).getD 0
def setGone (L : List PL) (q : Nat × Nat) (a : Int) : List PL := L.modify q.1 fun p => { p with went := p.went.set q.2 a }
/-- Each part tells of all its objects. -/
def Full (L : List PL) : Prop := ∀ p ∈ L, p.went.length = p.objs.length
theorem leadsTo_obj : ∀ {L : List PL} {j : Nat} {a : Int} {q : Nat × Nat}, leadsTo L j a = some q → ∃ p, j ≤ q.1 ∧ L[q.1 - j]? = some p ∧ q.2 < p.objs.length ∧ a = p.first + 2 * q.2
  | p :: r, j, a, q, h => by
    rw [leadsTo] at h
    split at h
    · rename_i i hi
      cases h
      have := numIn_some.1 hi
      exact ⟨p, Nat.le_refl _, by simp, this.1, this.2⟩
    · obtain ⟨p', h1, h2, h3, h4⟩ := leadsTo_obj h
      refine ⟨p', by omega, ?_, h3, h4⟩
      rw [show q.1 - j = (q.1 - (j + 1)) + 1 by omega, List.getElem?_cons_succ]
      exact h2
theorem leadsTo_at {L : List PL} {a : Int} {q : Nat × Nat} (h : leadsTo L 0 a = some q) : ∃ p x, L[q.1]? = some p ∧ p.objs[q.2]? = some x ∧ objAt L q = some x ∧ a = p.first + 2 * q.2 := by
  obtain ⟨p, h1, h2, h3, h4⟩ := leadsTo_obj h
  rw [Nat.sub_zero] at h2
  exact ⟨p, _, h2, List.getElem?_eq_getElem h3, by simp [objAt, h2, List.getElem?_eq_getElem h3], h4⟩
theorem leadsTo_set (q : Nat × Nat) (a : Int) : ∀ (L : List PL) (j : Nat) (k : Nat) (b : Int), leadsTo (L.modify k fun p => { p with went := p.went.set q.2 a }) j b = leadsTo L j b
  | [], j, k, b => by simp [leadsTo]
  | p :: r, j, 0, b => by simp [leadsTo]
  | p :: r, j, k + 1, b => by
    simp only [List.modify_succ_cons, leadsTo, leadsTo_set q a r]
theorem leadsTo_setGone (L : List PL) (q : Nat × Nat) (a b : Int) : leadsTo (setGone L q a) 0 b = leadsTo L 0 b := leadsTo_set q a L 0 q.1 b
theorem objAt_setGone (L : List PL) (q q' : Nat × Nat) (a : Int) : objAt (setGone L q a) q' = objAt L q' := by
  unfold objAt setGone
  rw [List.getElem?_modify]
  split
  · cases L[q'.1]? <;> rfl
  · cases L[q'.1]? <;> rfl
theorem Full.set {L : List PL} (h : Full L) (q : Nat × Nat) (a : Int) : Full (setGone L q a) := by
  intro p hp
  obtain ⟨k, hk⟩ := List.getElem?_of_mem hp
  unfold setGone at hk
  rw [List.getElem?_modify] at hk
  cases hL : L[k]? with
  | none => rw [hL] at hk; simp at hk
  | some p' =>
    rw [hL] at hk
    have := h p' (List.mem_of_getElem? hL)
    split at hk
    · simp at hk; subst hk; simpa using this
    · simp at hk; subst hk; exact this
theorem goneTo_set {L : List PL} (hf : Full L) {q : Nat × Nat} {x : HO} (hq : objAt L q = some x) (a : Int) (q' : Nat × Nat) : goneTo (setGone L q a) q' = if q' = q then a else goneTo L q' := by
  unfold objAt at hq
  cases hL : L[q.1]? with
  | none => rw [hL] at hq; cases hq
  | some p =>
    rw [hL] at hq
    have hlen := hf p (List.mem_of_getElem? hL)
    have hx : q.2 < p.objs.length := (List.getElem?_eq_some_iff.1 (show p.objs[q.2]? = some x from hq)).1
    unfold goneTo setGone
    rw [List.getElem?_modify]
    by_cases e : q' = q
    · subst e
      simp [hL, hlen, hx]
    · rw [if_neg e]
      by_cases e1 : q.1 = q'.1
      · have e2 : q.2 ≠ q'.2 := fun k => e (Prod.ext e1.symm k.symm)
        rw [← e1, hL]
        simp [e2]
      · simp [e1]

/-- What takes objects into a part: its first address, its objects, and what they leave. -/
structure MS where
  ft : Int
  T : List HO
  L : List PL
def moveV (M : MS) (v : HV) : MS × HV :=
  if v.kind ≠ 4 then (M, v) else
  match leadsTo M.L 0 v.n with
  | none => (M, v)
  | some q =>
    if goneTo M.L q ≠ 0 then (M, { v with n := goneTo M.L q }) else
    match objAt M.L q with
    | none => (M, v)
    | some x => ({ M with T := M.T ++ [{ x with noted := false }], L := setGone M.L q (M.ft + 2 * M.T.length) }, { v with n := M.ft + 2 * M.T.length })
/-- A field among all is set. -/
def setF : List HO → Nat → HV → List HO
  | [], _, _ => []
  | x :: r, i, v => if i < x.fs.length then { x with fs := x.fs.set i v } :: r else x :: setF r (i - x.fs.length) v
theorem setF_len : ∀ (l : List HO) (i : Nat) (v : HV), (setF l i v).length = l.length
  | [], _, _ => rfl
  | x :: r, i, v => by
    rw [setF]
    split
    · rfl
    · simp [setF_len r]
theorem setF_rowO : ∀ (l : List HO) (b i : Nat) (v : HV), rowO b (setF l i v) = rowO b l
  | [], _, _, _ => rfl
  | x :: r, b, i, v => by
    rw [setF]
    split
    · simp [rowO, oCells]
    · simp only [rowO, setF_rowO r]
theorem setF_allF : ∀ (l : List HO) (i : Nat) (v : HV), allF (setF l i v) = (allF l).set i v
  | [], _, _ => rfl
  | x :: r, i, v => by
    rw [setF]
    split
    · rename_i h
      simp only [allF, List.flatMap_cons]
      rw [List.set_append_left _ _ h]
    · rename_i h
      have := setF_allF r (i - x.fs.length) v
      simp only [allF, List.flatMap_cons] at this ⊢
      rw [this, List.set_append_right _ _ (by omega)]
def fieldM (M : MS) (i : Nat) : MS :=
  match (allF M.T)[i]? with
  | none => M
  | some v => { (moveV M v).1 with T := setF (moveV M v).1.T i (moveV M v).2 }
def restM : Nat → MS → Nat → MS
  | 0, M, _ => M
  | f + 1, M, i => if i < (allF M.T).length then restM f (fieldM M i) (i + 1) else M
def rootsM (M : MS) (l : List HV) : MS := l.foldl (fun M v => (moveV M v).1) M
/-- How many fields there are at most, once all has gone. -/
def restW (f : HO → Nat) (L : List PL) : Nat := (L.map fun p => ((p.objs.zip p.went).map fun z => if z.2 = 0 then f z.1 else 0).sum).sum
def restOf (L : List PL) : Nat := restW (fun x => x.fs.length) L
/-- How many objects there are at most. -/
def cnt (M : MS) : Nat := M.T.length + restW (fun _ => 1) M.L
def pot (M : MS) : Nat := (allF M.T).length + restOf M.L
theorem moveV_ft (M : MS) (v : HV) : (moveV M v).1.ft = M.ft := by
  unfold moveV
  split
  · rfl
  · split
    · rfl
    · split
      · rfl
      · split <;> rfl
/-- What an object is, but for its fields. -/
def hdr (x : HO) : Int × Int × Int × Nat × Bool := (x.kind, x.tag, x.id, x.fs.length, x.noted)
theorem setF_hdr : ∀ (l : List HO) (i : Nat) (v : HV), (setF l i v).map hdr = l.map hdr
  | [], _, _ => rfl
  | x :: r, i, v => by
    rw [setF]
    split
    · simp [hdr]
    · simp [setF_hdr r]
theorem allF_hdr : ∀ (l : List HO), (allF l).length = ((l.map hdr).map fun z => z.2.2.2.1).sum
  | [] => rfl
  | x :: r => by
    have := allF_hdr r
    simp only [allF, List.flatMap_cons, List.length_append, List.map_cons, List.sum_cons] at this ⊢
    rw [this]
    rfl
theorem begin_hdr {l l' : List HO} (h : l.map hdr = l'.map hdr) (t : Nat) : beginAt l t = beginAt l' t := by
  unfold beginAt
  rw [allF_hdr, allF_hdr, List.map_take, h, ← List.map_take]
theorem begin_app (l r : List HO) {t : Nat} (h : t ≤ l.length) : beginAt (l ++ r) t = beginAt l t := by
  unfold beginAt
  rw [List.take_append_of_le_length h]
theorem begin_len (l r : List HO) : beginAt (l ++ r) l.length = (allF l).length := by
  unfold beginAt
  rw [List.take_left]
theorem begin_mono (l : List HO) {t t' : Nat} {x : HO} (h : l[t]? = some x) (hl : t < t') : beginAt l t + x.fs.length ≤ beginAt l t' := by
  have h2 : (l.take t')[t]? = some x := by rw [List.getElem?_take, if_pos hl]; exact h
  have := begin_le h2
  unfold beginAt at *
  rwa [List.take_take, Nat.min_eq_left (Nat.le_of_lt hl)] at this
theorem goneTo_obj {L : List PL} (hf : Full L) {q : Nat × Nat} (h : goneTo L q ≠ 0) : ∃ x, objAt L q = some x := by
  unfold goneTo at h
  unfold objAt
  cases hL : L[q.1]? with
  | none => rw [hL] at h; exact absurd rfl h
  | some p =>
    rw [hL] at h
    cases hw : p.went[q.2]? with
    | none =>
      have : ((some p).bind fun p => p.went[q.2]?) = none := hw
      rw [this] at h
      exact absurd rfl h
    | some a =>
      have h1 := (List.getElem?_eq_some_iff.1 hw).1
      rw [hf p (List.mem_of_getElem? hL)] at h1
      exact ⟨_, List.getElem?_eq_getElem h1⟩
/-- Where a value leads once its object has gone. -/
def phi (L : List PL) (v : HV) : HV :=
  if v.kind ≠ 4 then v else
  match leadsTo L 0 v.n with
  | none => v
  | some q => if goneTo L q = 0 then v else { v with n := goneTo L q }
/-- It stays, or has gone. -/
def Went (L : List PL) (v : HV) : Prop := v.kind = 4 → ∀ q, leadsTo L 0 v.n = some q → goneTo L q ≠ 0
structure Later (L L' : List PL) : Prop where
  leads : ∀ a, leadsTo L' 0 a = leadsTo L 0 a
  objs : ∀ q, objAt L' q = objAt L q
  gone : ∀ q, goneTo L q ≠ 0 → goneTo L' q = goneTo L q
theorem Later.refl (L : List PL) : Later L L := ⟨fun _ => rfl, fun _ => rfl, fun _ _ => rfl⟩
theorem Later.trans {L L' L'' : List PL} (h : Later L L') (k : Later L' L'') : Later L L'' :=
  ⟨fun a => (k.leads a).trans (h.leads a), fun q => (k.objs q).trans (h.objs q), fun q hq => (k.gone q (by rw [h.gone q hq]; exact hq)).trans (h.gone q hq)⟩
theorem Later.went {L L' : List PL} (h : Later L L') {v : HV} (hd : Went L v) : Went L' v := fun hk q hq => by
  rw [h.leads] at hq
  rw [h.gone q (hd hk q hq)]
  exact hd hk q hq
theorem Later.phi {L L' : List PL} (h : Later L L') {v : HV} (hd : Went L v) : phi L' v = phi L v := by
  unfold Go.Proofs.Ytddfdefgdlfpmaa.phi
  split
  · rfl
  · rename_i hk
    rw [h.leads]
    cases hq : leadsTo L 0 v.n with
    | none => rfl
    | some q =>
      have := hd (by simpa using hk) q hq
      simp only [h.gone q this]
structure MInv (k0 s : Nat) (M : MS) : Prop where
  full : Full M.L
  ft : 0 < M.ft
  kle : k0 ≤ M.T.length
  sle : s ≤ (allF M.T).length
  conv : ∀ q, goneTo M.L q ≠ 0 → ∃ t, k0 ≤ t ∧ t < M.T.length ∧ goneTo M.L q = M.ft + 2 * t
  inj : ∀ q q', goneTo M.L q ≠ 0 → goneTo M.L q = goneTo M.L q' → q = q'
  orig : ∀ t y, k0 ≤ t → M.T[t]? = some y → ∃ q x, goneTo M.L q = M.ft + 2 * t ∧ objAt M.L q = some x ∧ hdr y = hdr { x with noted := false }
  flds : ∀ t q x k v, k0 ≤ t → t < M.T.length → goneTo M.L q = M.ft + 2 * t → objAt M.L q = some x → x.fs[k]? = some v →
      (beginAt M.T t + k < s → (allF M.T)[beginAt M.T t + k]? = some (phi M.L v) ∧ Went M.L v) ∧ (s ≤ beginAt M.T t + k → (allF M.T)[beginAt M.T t + k]? = some v)
/-- A value is moved. -/
theorem MInv.move {k0 s : Nat} {M : MS} (h : MInv k0 s M) (v : HV) : MInv k0 s (moveV M v).1 ∧ Later M.L (moveV M v).1.L ∧ (moveV M v).2 = phi (moveV M v).1.L v ∧ Went (moveV M v).1.L v ∧ (∃ r, (moveV M v).1.T = M.T ++ r) := by
  by_cases hk : v.kind ≠ 4
  · have e : moveV M v = (M, v) := by unfold moveV; rw [if_pos hk]
    rw [e]
    exact ⟨h, Later.refl _, by unfold phi; rw [if_pos hk], fun k => absurd k hk, [], by simp⟩
  · cases hq : leadsTo M.L 0 v.n with
    | none =>
      have e : moveV M v = (M, v) := by unfold moveV; rw [if_neg hk, hq]
      rw [e]
      exact ⟨h, Later.refl _, by unfold phi; rw [if_neg hk]; simp only [hq], fun _ q k => (by rw [show leadsTo (M, v).1.L 0 v.n = none from hq] at k; cases k), [], by simp⟩
    | some q =>
      by_cases hg : goneTo M.L q ≠ 0
      · have e : moveV M v = (M, { v with n := goneTo M.L q }) := by unfold moveV; rw [if_neg hk, hq]; simp only [if_pos hg]
        rw [e]
        exact ⟨h, Later.refl _, by unfold phi; rw [if_neg hk]; simp only [hq, if_neg hg], fun _ q' k => by rw [hq] at k; cases k; exact hg, [], by simp⟩
      · obtain ⟨p, x, h1, h2, h3, h4⟩ := leadsTo_at hq
        have e : moveV M v = ({ M with T := M.T ++ [{ x with noted := false }], L := setGone M.L q (M.ft + 2 * M.T.length) }, { v with n := M.ft + 2 * M.T.length }) := by
          unfold moveV
          rw [if_neg hk, hq]
          simp only [if_neg hg, h3]
        rw [e]
        have hg0 : goneTo M.L q = 0 := by simpa using hg
        have hft := h.ft
        have gs : ∀ q', goneTo (setGone M.L q (M.ft + 2 * M.T.length)) q' = if q' = q then M.ft + 2 * M.T.length else goneTo M.L q' := goneTo_set h.full h3 _
        have gq : goneTo (setGone M.L q (M.ft + 2 * M.T.length)) q = M.ft + 2 * M.T.length := by rw [gs, if_pos rfl]
        have lat : Later M.L (setGone M.L q (M.ft + 2 * M.T.length)) := ⟨fun a => leadsTo_setGone _ _ _ _, fun q' => objAt_setGone _ _ _ _, fun q' hq' => by
          rw [gs, if_neg (fun e => hq' (by rw [e]; exact hg0))]⟩
        have old : ∀ q' t, t < M.T.length → goneTo (setGone M.L q (M.ft + 2 * M.T.length)) q' = M.ft + 2 * (t : Int) → goneTo M.L q' = M.ft + 2 * t := fun q' t ht e => by
          rw [gs] at e
          split at e
          · omega
          · exact e
        refine ⟨⟨h.full.set _ _, h.ft, ?_, ?_, ?_, ?_, ?_, ?_⟩, lat, ?_, ?_, _, rfl⟩
        · show k0 ≤ (M.T ++ [_]).length
          have := h.kle
          simp
          omega
        · show s ≤ (allF (M.T ++ [_])).length
          have := h.sle
          simp [allF] at this ⊢
          omega
        · intro q' hq'
          by_cases e' : q' = q
          · subst e'
            exact ⟨M.T.length, h.kle, by show M.T.length < (M.T ++ [_]).length; simp, gq⟩
          · have hq'' : goneTo M.L q' ≠ 0 := by
              have this : goneTo (setGone M.L q (M.ft + 2 * M.T.length)) q' ≠ 0 := hq'
              rw [gs, if_neg e'] at this
              exact this
            obtain ⟨t, t1, t2, t3⟩ := h.conv q' hq''
            exact ⟨t, t1, by show t < (M.T ++ [_]).length; simp; omega, (show goneTo (setGone M.L q _) q' = M.ft + 2 * t by rw [gs, if_neg e']; exact t3)⟩
        · intro a b ha hab
          have ha' := ha
          rw [gs] at ha'
          rw [gs, gs] at hab
          by_cases ea : a = q <;> by_cases eb : b = q
          · rw [ea, eb]
          · rw [if_pos ea, if_neg eb] at hab
            have hb : goneTo M.L b ≠ 0 := by omega
            obtain ⟨t, _, t2, t3⟩ := h.conv b hb
            omega
          · rw [if_neg ea, if_pos eb] at hab
            rw [if_neg ea] at ha'
            obtain ⟨t, _, t2, t3⟩ := h.conv a ha'
            omega
          · rw [if_neg ea] at ha'
            rw [if_neg ea, if_neg eb] at hab
            exact h.inj a b ha' hab
        · intro t y ht hy
          have hy : (M.T ++ [{ x with noted := false }])[t]? = some y := hy
          show ∃ q' x', goneTo (setGone M.L q (M.ft + 2 * M.T.length)) q' = M.ft + 2 * t ∧ _
          by_cases hlt : t < M.T.length
          · rw [List.getElem?_append_left hlt] at hy
            obtain ⟨q', x', a1, a2, a3⟩ := h.orig t y ht hy
            exact ⟨q', x', by rw [lat.gone q' (by omega)]; exact a1, (objAt_setGone _ _ _ _).trans a2, a3⟩
          · have hte : t = M.T.length := by
              have := (List.getElem?_eq_some_iff.1 hy).1
              simp at this
              omega
            subst hte
            rw [List.getElem?_append_right (Nat.le_refl _), Nat.sub_self] at hy
            simp at hy
            subst hy
            exact ⟨q, x, gq, (objAt_setGone _ _ _ _).trans h3, rfl⟩
        · intro t q' x' k u ht htl hgq hob hu
          replace htl : t < (M.T ++ [{ x with noted := false }]).length := htl
          replace hgq : goneTo (setGone M.L q (M.ft + 2 * M.T.length)) q' = M.ft + 2 * t := hgq
          have hob2 : objAt M.L q' = some x' := (objAt_setGone _ _ _ _).symm.trans hob
          clear hob
          have hob := hob2
          clear hob2
          show (beginAt (M.T ++ [_]) t + k < s → (allF (M.T ++ [_]))[beginAt (M.T ++ [_]) t + k]? = some (phi (setGone M.L q _) u) ∧ Went (setGone M.L q _) u) ∧ (s ≤ beginAt (M.T ++ [_]) t + k → (allF (M.T ++ [_]))[beginAt (M.T ++ [_]) t + k]? = some u)
          by_cases hlt : t < M.T.length
          · have hgq' := old q' t hlt hgq
            obtain ⟨y, hy⟩ : ∃ y, M.T[t]? = some y := ⟨_, List.getElem?_eq_getElem hlt⟩
            obtain ⟨q2, x2, b1, b2, b3⟩ := h.orig t y ht hy
            have hqq : q2 = q' := h.inj q2 q' (by omega) (by omega)
            subst hqq
            rw [hob] at b2
            cases b2
            have hkl : k < y.fs.length := by
              have h5 := (List.getElem?_eq_some_iff.1 hu).1
              have h6 : y.fs.length = x'.fs.length := by
                have := congrArg (fun z => z.2.2.2.1) b3
                exact this
              omega
            have hbl := begin_le hy
            have hidx : beginAt M.T t + k < (allF M.T).length := by omega
            have hal : (allF (M.T ++ [{ x with noted := false }]))[beginAt M.T t + k]? = (allF M.T)[beginAt M.T t + k]? := by
              rw [show allF (M.T ++ [{ x with noted := false }]) = allF M.T ++ allF [{ x with noted := false }] by simp [allF], List.getElem?_append_left hidx]
            rw [begin_app _ _ (Nat.le_of_lt hlt), hal]
            obtain ⟨f1, f2⟩ := h.flds t q2 x' k u ht hlt hgq' hob hu
            exact ⟨fun hs => ⟨by rw [lat.phi (f1 hs).2]; exact (f1 hs).1, lat.went (f1 hs).2⟩, f2⟩
          · have hte : t = M.T.length := by
              simp at htl
              omega
            subst hte
            have hqq : q' = q := by
              by_cases e' : q' = q
              · exact e'
              · rw [gs, if_neg e'] at hgq
                obtain ⟨t', _, t2, t3⟩ := h.conv q' (by omega)
                omega
            subst hqq
            rw [h3] at hob
            cases hob
            rw [begin_len]
            have := h.sle
            refine ⟨fun hs => by omega, fun _ => ?_⟩
            rw [show allF (M.T ++ [{ x with noted := false }]) = allF M.T ++ x.fs by simp [allF], List.getElem?_append_right (by omega), Nat.add_sub_cancel_left]
            exact hu
        · show ({ v with n := M.ft + 2 * (M.T.length : Int) } : HV) = phi (setGone M.L q _) v
          unfold phi
          rw [if_neg hk, leadsTo_setGone, hq]
          simp only [gq]
          rw [if_neg (by omega)]
        · intro _ q' hq'
          have hq' : leadsTo (setGone M.L q (M.ft + 2 * M.T.length)) 0 v.n = some q' := hq'
          rw [leadsTo_setGone, hq] at hq'
          cases hq'
          show goneTo (setGone M.L q _) q ≠ 0
          rw [gq]
          omega
end Go.Proofs.Ytddfdefgdlfpmaa
