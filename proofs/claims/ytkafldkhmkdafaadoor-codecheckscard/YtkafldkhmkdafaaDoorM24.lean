/-
  Images are read.
  The sum of bytes.
-/
import Derived.Test.YtkafldkhmkdafaaDoorM23
namespace Go.Proofs.YtkafldkhmkdafaaDoor
open Go.RowKit
attribute [local go_sem ↓] Go.wp_at_zero Go.wp_at_succ

/-- An image at block ib that is being read. -/
structure IHd (r : Nat) (l : List Int) (w : World) (ib : Nat) (cs : Array Value) (l3 : List Int) (b3 : Bool) (wc : World) : Prop where
  rd : RdAt wc r l3 b3
  ext : Ext r w wc
  far : w.heap.size ≤ ib
  blk : wc.heap[ib]? = some (.cells cs 26 (0, 0))
  le : l3.length ≤ l.length
  rlt : r < w.heap.size
theorem IHd.put {r : Nat} {l : List Int} {w : World} {ib : Nat} {cs : Array Value} {l3 : List Int} {b3 : Bool} {wc : World} (h : IHd r l w ib cs l3 b3 wc) {w4 : World} {l4 : List Int} {b4 : Bool} (hr : RdAt w4 r l4 b4) (he : Ext r wc w4) (hl : l4.length ≤ l3.length) (i : Nat) (v : Value) :
    IHd r l w ib (cs.setIfInBounds i v) l4 b4 (w4.setCell ⟨ib, i, none⟩ v) := by
  have hf := h.far
  have hr0 := h.rlt
  exact ⟨hr.setFar (by omega) i v, (h.ext.trans he).setNew (by omega) i v, h.far, hset ((he.block ib (hlt h.blk) (by omega)).trans h.blk) i v, Nat.le_trans hl h.le, h.rlt⟩
theorem IHd.blk4 {r : Nat} {l : List Int} {w : World} {ib : Nat} {cs : Array Value} {l3 : List Int} {b3 : Bool} {wc : World} (h : IHd r l w ib cs l3 b3 wc) {w4 : World} (he : Ext r wc w4) : w4.heap[ib]? = some (.cells cs 26 (0, 0)) :=
  (he.block ib (hlt h.blk) (by have := h.far; have := h.rlt; omega)).trans h.blk
def okM (m : PM) : Prop := (∀ c ∈ m.consts, okC c) ∧ (∀ c ∈ m.classes, okK c) ∧ ∀ f ∈ m.funcs, okF f
def ImgGot (r : Nat) (l : List Int) (wb : Bool) (w : World) (e : Ending) (w' : World) : Prop :=
  ∃ (ib : Nat) (l' : List Int) (wb' : Bool), e = .returned (.pointer (some ⟨ib, 0, none⟩)) ∧ RdAt w' r l' wb' ∧ Ext r w w' ∧ l'.length ≤ l.length ∧ w.heap.size ≤ ib ∧
    (wb' = false → wb = false ∧ ∃ m vf vc vk, (∀ w'', Ext r w' w'' → ImgAt w'' ib m vf vc vk) ∧ okM m ∧ l = encM m ++ l')
/-- So much of the mark was read. -/
def MarkInv (r : Nat) (l : List Int) (wb : Bool) (w : World) (k : Nat) (wr : World) : Prop :=
  ∃ l2 wb2, RdAt wr r l2 wb2 ∧ Ext r w wr ∧ l2.length ≤ l.length ∧ (wb2 = false → wb = false ∧ l = ([82, 87, 78, 68] : List Int).take k ++ l2)
/-- All lists' blocks but the reader and the image stay. -/
theorem FnOwn.keep2 {w w' : World} {B r ib : Nat} {v : Value} {C : Nat → Value} {f : PF} (h : FnOwn w (noB B v) C f) (hr : r < B) (hi : ib < B) (hs : w.heap.size ≤ w'.heap.size) (hb : ∀ j, j < w.heap.size → j ≠ r → j ≠ ib → w'.heap[j]? = w.heap[j]?) : FnOwn w' (noB B v) C f :=
  h.move hs (fun j hj hn => hb j hj (fun e => hn (Or.inl (by omega))) (fun e => hn (Or.inl (by omega)))) (fun _ _ q => q)
theorem KdOwn.keep2 {w w' : World} {B r ib : Nat} {v : Value} {C : Nat → Value} {f : PK} (h : KdOwn w (noB B v) C f) (hr : r < B) (hi : ib < B) (hs : w.heap.size ≤ w'.heap.size) (hb : ∀ j, j < w.heap.size → j ≠ r → j ≠ ib → w'.heap[j]? = w.heap[j]?) : KdOwn w' (noB B v) C f :=
  h.move hs (fun j hj hn => hb j hj (fun e => hn (Or.inl (by omega))) (fun e => hn (Or.inl (by omega)))) (fun _ _ q => q)

set_option maxRecDepth 100000 in
set_option maxHeartbeats 8000000 in
theorem rimage_any {w : World} {r : Nat} {l : List Int} {wb : Bool} (h : RdAt w r l wb) :
    Calls Tryd.prog 19 #[.pointer (some ⟨r, 0, none⟩)] w fun e w' => ImgGot r l wb w e w' := by
  have hrl := h.lt
  have HRL := hide hrl
  have H := hide h
  clear h
  go_enter Tryd.func19, Tryd.ntmps19
  go_wp2_with fail
  go_loopg [5] 4 (fun gg i wr => ∃ (k : Nat), k ≤ 4 ∧ gg = 4 - k ∧ i = .int .i64 k ∧ Hid (MarkInv r l wb w k wr))
  case atStart => exact ⟨0, by omega, rfl, rfl, l, wb, unhide H, Ext.refl _ _, Nat.le_refl _, fun q => ⟨q, rfl⟩⟩
  case round =>
    obtain ⟨k, hk, rfl, rfl, HY⟩ := hrel
    obtain ⟨l2, wb2, hr2, he2, hl2, hw2⟩ := unhide HY
    have HR2 := hide hr2
    have HE2 := hide he2
    have HL2 := hide hl2
    have HW2 := hide hw2
    have HRD : Hid (RdAt wr.drew r l2 wb2) := hr2.keep (Below.drew (Below.refl _ _))
    clear hr2 he2 hl2 hw2 HY
    rcases (show k = 4 ∨ k = 0 ∨ k = 1 ∨ k = 2 ∨ k = 3 by omega) with rfl | hk4
    · obtain ⟨wc, hwc⟩ : ∃ wc, wr.alloc (.cells #[.slice none 0 0, .slice none 0 0, .slice none 0 0] 26) = wc := ⟨_, rfl⟩
      obtain ⟨ib, hib⟩ : ∃ ib, wr.heap.size = ib := ⟨_, rfl⟩
      have hbc : Below wr.heap.size wr wc := by rw [← hwc]; exact (Below.refl _ _).alloc (Nat.le_refl _) _
      have HD : Hid (IHd r l w ib #[.slice none 0 0, .slice none 0 0, .slice none 0 0] l2 wb2 wc) := ⟨(unhide HR2).keep hbc, (unhide HE2).trans (Ext.of_below hbc), by rw [← hib]; exact (unhide HE2).size, by rw [← hwc, ← hib]; exact hnew _ _, unhide HL2, unhide HRL⟩
      clear hbc
      go_wp2_with fail
      try rw [hwc]
      clear hwc
      refine (listC (unhide HD).rd).mono ?_
      rintro e u1 ⟨gc, nc, ccc, m1, d1, rfl, hr, he, hl, hw⟩
      have kb := (unhide HD).blk4 he
      have z1 := hcell kb 1
      have y1 := hfroz kb 1
      have HD1 := hide ((unhide HD).put hr he hl 1 (.slice gc nc ccc))
      have HX1 := hide hw
      have HG1 := hide he
      obtain ⟨v1, hv1⟩ : ∃ v1, u1.setCell ⟨ib, 1, none⟩ (.slice gc nc ccc) = v1 := ⟨_, rfl⟩
      rw [hv1] at HD1
      have HV1 := hide hv1
      clear hr he hl hw kb
      go_wp2_with fail
      clear z1 y1
      refine (listK (unhide HD1).rd).mono ?_
      rintro e u2 ⟨gk, nk, cck, m2, d2, rfl, hr, he, hl, hw⟩
      have kb := (unhide HD1).blk4 he
      have z2 := hcell kb 2
      have y2 := hfroz kb 2
      have HD2 := hide ((unhide HD1).put hr he hl 2 (.slice gk nk cck))
      have HX2 := hide hw
      have HG2 := hide he
      obtain ⟨v2, hv2⟩ : ∃ v2, u2.setCell ⟨ib, 2, none⟩ (.slice gk nk cck) = v2 := ⟨_, rfl⟩
      rw [hv2] at HD2
      have HV2 := hide hv2
      clear hr he hl hw kb
      go_wp2_with fail
      clear z2 y2
      refine (listF (unhide HD2).rd).mono ?_
      rintro e u3 ⟨gf, nf, ccf, m3, d3, rfl, hr, he, hl, hw⟩
      have kb := (unhide HD2).blk4 he
      have z3 := hcell kb 0
      have y3 := hfroz kb 0
      have HD3 := hide ((unhide HD2).put hr he hl 0 (.slice gf nf ccf))
      have HX3 := hide hw
      have HG3 := hide he
      obtain ⟨v3, hv3⟩ : ∃ v3, u3.setCell ⟨ib, 0, none⟩ (.slice gf nf ccf) = v3 := ⟨_, rfl⟩
      rw [hv3] at HD3
      have HV3 := hide hv3
      clear hr he hl hw kb
      go_wp2_with fail
      clear z3 y3
      go_ret
      refine ⟨ib, m3, d3, rfl, (unhide HD3).rd, (unhide HD3).ext, (unhide HD3).le, (unhide HD).far, fun q => ?_⟩
      obtain ⟨q, fs, cf, of', wf, ef, lf, eqf⟩ := (unhide HX3) q
      obtain ⟨q, ks, ck, ok', wk, ek, lk, eqk⟩ := (unhide HX2) q
      obtain ⟨q, xs, cx, ox, wx, ex, lx, eqx⟩ := (unhide HX1) q
      obtain ⟨q, e0⟩ := (unhide HW2) q
      have hr := unhide HRL
      have hf1 := hlt (unhide HD).blk
      have hf2 := hlt (unhide HD1).blk
      have hf3 := hlt (unhide HD2).blk
      have hw1 := (unhide HD).ext.size
      have hw2 := (unhide HD1).ext.size
      have hw3 := (unhide HD2).ext.size
      have kb := (unhide HD3).blk
      have hg2 := unhide HG2
      have hg3 := unhide HG3
      obtain rfl := unhide HV1
      obtain rfl := unhide HV2
      obtain rfl := unhide HV3
      obtain ⟨RF, hRF, hFF⟩ := ef
      obtain ⟨RK, hRK, hKK⟩ := ek
      have hri : ib ≠ r := by have := (unhide HD).far; omega
      refine ⟨q, ⟨fs, xs, ks⟩, .slice gf nf ccf, .slice gc nc ccc, .slice gk nk cck, fun w9 hx9 => ⟨hx9.cell (hcell kb 0) hri, hx9.cell (hcell kb 1) hri, hx9.cell (hcell kb 2) hri, ⟨?_, ?_, ?_⟩⟩, ⟨ox, ok', of'⟩, ?_⟩
      · refine ⟨RF, (((SlOwn.of_owns (b := 104) wf hRF (by omega)).set hf3 0 _).ext hx9 (by omega)).1, fun i f hi => ?_⟩
        have hsz : u3.heap.size ≤ w9.heap.size := by have := hx9.size; simpa [World.setCell] using this
        refine (FnOwn.keep2 (r := r) (ib := ib) (hFF i f hi) (by omega) hf3 hsz fun j hj h2 h3 => ?_).1
        rw [hx9.block j (by simpa [World.setCell] using hj) h2]
        exact hother _ h3
      · exact ((((((SlOwn.of_owns (b := 32) wx ex (by omega)).set hf1 1 _).ext hg2 (by omega)).set hf1 2 _).ext hg3 (by omega)).set hf1 0 _).ext hx9 (by omega) |>.1
      · refine ⟨RK, (((((SlOwn.of_owns (b := 96) wk hRK (by omega)).set hf2 2 _).ext hg3 (by omega)).set hf2 0 _).ext hx9 (by omega)).1, fun i f hi => ?_⟩
        have hsz : u2.heap.size ≤ u3.heap.size := by have := hg3.size; simpa [World.setCell] using this
        have hsz9 : u3.heap.size ≤ w9.heap.size := by have := hx9.size; simpa [World.setCell] using this
        refine (KdOwn.keep2 (r := r) (ib := ib) (hKK i f hi) (by omega) hf2 (Nat.le_trans hsz hsz9) fun j hj h2 h3 => ?_).1
        rw [hx9.block j (by simp [World.setCell]; omega) h2, hother _ h3, hg3.block j (by simpa [World.setCell] using hj) h2, hother _ h3]
      · rw [e0, eqx, eqk, eqf]
        simp [encM]
    rcases hk4 with hk4 | hk4 | hk4 | hk4
    · subst hk4
      go_wp2_with fail
      refine wp_region_held_drew (S := (fun _ => True)) (by kernel_rfl) trivial (fun hHeld => ?_)
      refine wpAnyH_take (i := 0) (oi := { dst := some 8, op := _, type := _, pos := _, after := _, guard := _ }) (v := ?_) rfl (by kernel_rfl) (by kernel_rfl) (by kernel_rfl) (fun _ _ _ h => h) (Or.inl ⟨by rfl, ?_⟩) (by assumption) ?_
      case refine_2 =>
        intro w hSw
        try dsimp only at hSw
        go_simp
        try with_reducible rfl
      simp only [Act.put, List.setIfInBounds_toArray, List.set_cons_zero, List.set_cons_succ]
      refine wpAnyH_take (i := 2) (oi := { dst := some 10, op := _, type := _, pos := _, after := _, guard := _ }) (v := ?_) rfl (by kernel_rfl) (by kernel_rfl) (by kernel_rfl) (fun _ _ _ h => h) (Or.inl ⟨by rfl, ?_⟩) (by assumption) ?_
      case refine_2 =>
        intro w hSw
        try dsimp only at hSw
        go_simp
        try with_reducible rfl
      simp only [Act.put, List.setIfInBounds_toArray, List.set_cons_zero, List.set_cons_succ]
      refine wpAnyH_take (i := 3) (oi := { dst := some 11, op := _, type := _, pos := _, after := _, guard := _ }) (v := ?_) rfl (by kernel_rfl) (by kernel_rfl) (by kernel_rfl) (fun _ _ _ h => h) (Or.inl ⟨by rfl, ?_⟩) (by assumption) ?_
      case refine_2 =>
        intro w hSw
        try dsimp only at hSw
        go_simp
        try with_reducible rfl
      simp only [Act.put, List.setIfInBounds_toArray, List.set_cons_zero, List.set_cons_succ]
      refine wpAnyH_ready (rs := [1]) (by kernel_rfl) (by simp) ?_
      refine AllReadyH.cons (o := { dst := some 9, op := _, type := _, pos := _, after := _, guard := _ }) rfl (fun K hK => ?_) AllReadyH.nil
      go_simp
      refine (next_any (unhide HRD)).mono ?_
      rintro e w3 ⟨b, l3, wb3, rfl, hb0, hb1, hr3, he3, hl3, hw3⟩
      have HR3 := hide hr3
      have HE3 := hide (((unhide HE2).trans (Ext.of_below (Below.drew (Below.refl _ _)))).trans he3)
      have HL3 := hide (Nat.le_trans hl3 (unhide HL2))
      have HW3 := hide hw3
      obtain ⟨g3, cap3, t3, hbk, _⟩ := hr3.blk
      have c1 : w3.cell? ⟨r, 1, none⟩ = some (.bool wb3) := hcell hbk 1
      have f1 := hfroz hbk 1
      clear hr3 he3 hl3 hw3 hbk
      refine hK.out _ _ trivial (fun hHeld2 => ?_)
      clear hK K
      refine wpAnyH_take (i := 4) (oi := { dst := some 12, op := _, type := _, pos := _, after := _, guard := _ }) (v := ?_) rfl (by kernel_rfl) (by kernel_rfl) (by kernel_rfl) (fun _ _ _ h => h) (Or.inl ⟨by rfl, ?_⟩) (by assumption) ?_
      case refine_2 =>
        intro w hSw
        try dsimp only at hSw
        go_simp
        try with_reducible rfl
      simp only [Act.put, List.setIfInBounds_toArray, List.set_cons_zero, List.set_cons_succ]
      refine wpAnyH_done (by kernel_rfl) ?_ _
      have hix : (((⟨#[82, 87, 78, 68]⟩ : ByteArray)[0]'(by decide)).toNat : Int) = 82 := rfl
      try rw [hix]
      by_cases hb : b = 82
      · subst hb
        go_wp2_with fail
        go_roundg (4 - (0 + 1))
        case measure => omega
        case rel =>
          refine ⟨1, by omega, rfl, rfl, l3, wb3, unhide HR3, unhide HE3, unhide HL3, fun q => ?_⟩
          obtain ⟨q, e3⟩ := (unhide HW3) q
          obtain ⟨q, e2⟩ := (unhide HW2) q
          exact ⟨q, by rw [e2, e3]; rfl⟩
      · have hbn : (b != 82) = true := by simpa using hb
        have hbe : (b == 82) = false := by simpa using hb
        go_wp2_with fail
        go_roundg (4 - (0 + 1))
        case measure => omega
        case rel => exact ⟨1, by omega, rfl, rfl, l3, true, (unhide HR3).bad, (unhide HE3).setCell 1 _, unhide HL3, fun q => by cases q⟩
    · subst hk4
      go_wp2_with fail
      refine wp_region_held_drew (S := (fun _ => True)) (by kernel_rfl) trivial (fun hHeld => ?_)
      refine wpAnyH_take (i := 0) (oi := { dst := some 8, op := _, type := _, pos := _, after := _, guard := _ }) (v := ?_) rfl (by kernel_rfl) (by kernel_rfl) (by kernel_rfl) (fun _ _ _ h => h) (Or.inl ⟨by rfl, ?_⟩) (by assumption) ?_
      case refine_2 =>
        intro w hSw
        try dsimp only at hSw
        go_simp
        try with_reducible rfl
      simp only [Act.put, List.setIfInBounds_toArray, List.set_cons_zero, List.set_cons_succ]
      refine wpAnyH_take (i := 2) (oi := { dst := some 10, op := _, type := _, pos := _, after := _, guard := _ }) (v := ?_) rfl (by kernel_rfl) (by kernel_rfl) (by kernel_rfl) (fun _ _ _ h => h) (Or.inl ⟨by rfl, ?_⟩) (by assumption) ?_
      case refine_2 =>
        intro w hSw
        try dsimp only at hSw
        go_simp
        try with_reducible rfl
      simp only [Act.put, List.setIfInBounds_toArray, List.set_cons_zero, List.set_cons_succ]
      refine wpAnyH_take (i := 3) (oi := { dst := some 11, op := _, type := _, pos := _, after := _, guard := _ }) (v := ?_) rfl (by kernel_rfl) (by kernel_rfl) (by kernel_rfl) (fun _ _ _ h => h) (Or.inl ⟨by rfl, ?_⟩) (by assumption) ?_
      case refine_2 =>
        intro w hSw
        try dsimp only at hSw
        go_simp
        try with_reducible rfl
      simp only [Act.put, List.setIfInBounds_toArray, List.set_cons_zero, List.set_cons_succ]
      refine wpAnyH_ready (rs := [1]) (by kernel_rfl) (by simp) ?_
      refine AllReadyH.cons (o := { dst := some 9, op := _, type := _, pos := _, after := _, guard := _ }) rfl (fun K hK => ?_) AllReadyH.nil
      go_simp
      refine (next_any (unhide HRD)).mono ?_
      rintro e w3 ⟨b, l3, wb3, rfl, hb0, hb1, hr3, he3, hl3, hw3⟩
      have HR3 := hide hr3
      have HE3 := hide (((unhide HE2).trans (Ext.of_below (Below.drew (Below.refl _ _)))).trans he3)
      have HL3 := hide (Nat.le_trans hl3 (unhide HL2))
      have HW3 := hide hw3
      obtain ⟨g3, cap3, t3, hbk, _⟩ := hr3.blk
      have c1 : w3.cell? ⟨r, 1, none⟩ = some (.bool wb3) := hcell hbk 1
      have f1 := hfroz hbk 1
      clear hr3 he3 hl3 hw3 hbk
      refine hK.out _ _ trivial (fun hHeld2 => ?_)
      clear hK K
      refine wpAnyH_take (i := 4) (oi := { dst := some 12, op := _, type := _, pos := _, after := _, guard := _ }) (v := ?_) rfl (by kernel_rfl) (by kernel_rfl) (by kernel_rfl) (fun _ _ _ h => h) (Or.inl ⟨by rfl, ?_⟩) (by assumption) ?_
      case refine_2 =>
        intro w hSw
        try dsimp only at hSw
        go_simp
        try with_reducible rfl
      simp only [Act.put, List.setIfInBounds_toArray, List.set_cons_zero, List.set_cons_succ]
      refine wpAnyH_done (by kernel_rfl) ?_ _
      have hix : (((⟨#[82, 87, 78, 68]⟩ : ByteArray)[1]'(by decide)).toNat : Int) = 87 := rfl
      try rw [hix]
      by_cases hb : b = 87
      · subst hb
        go_wp2_with fail
        go_roundg (4 - (1 + 1))
        case measure => omega
        case rel =>
          refine ⟨2, by omega, rfl, rfl, l3, wb3, unhide HR3, unhide HE3, unhide HL3, fun q => ?_⟩
          obtain ⟨q, e3⟩ := (unhide HW3) q
          obtain ⟨q, e2⟩ := (unhide HW2) q
          exact ⟨q, by rw [e2, e3]; rfl⟩
      · have hbn : (b != 87) = true := by simpa using hb
        have hbe : (b == 87) = false := by simpa using hb
        go_wp2_with fail
        go_roundg (4 - (1 + 1))
        case measure => omega
        case rel => exact ⟨2, by omega, rfl, rfl, l3, true, (unhide HR3).bad, (unhide HE3).setCell 1 _, unhide HL3, fun q => by cases q⟩
    · subst hk4
      go_wp2_with fail
      refine wp_region_held_drew (S := (fun _ => True)) (by kernel_rfl) trivial (fun hHeld => ?_)
      refine wpAnyH_take (i := 0) (oi := { dst := some 8, op := _, type := _, pos := _, after := _, guard := _ }) (v := ?_) rfl (by kernel_rfl) (by kernel_rfl) (by kernel_rfl) (fun _ _ _ h => h) (Or.inl ⟨by rfl, ?_⟩) (by assumption) ?_
      case refine_2 =>
        intro w hSw
        try dsimp only at hSw
        go_simp
        try with_reducible rfl
      simp only [Act.put, List.setIfInBounds_toArray, List.set_cons_zero, List.set_cons_succ]
      refine wpAnyH_take (i := 2) (oi := { dst := some 10, op := _, type := _, pos := _, after := _, guard := _ }) (v := ?_) rfl (by kernel_rfl) (by kernel_rfl) (by kernel_rfl) (fun _ _ _ h => h) (Or.inl ⟨by rfl, ?_⟩) (by assumption) ?_
      case refine_2 =>
        intro w hSw
        try dsimp only at hSw
        go_simp
        try with_reducible rfl
      simp only [Act.put, List.setIfInBounds_toArray, List.set_cons_zero, List.set_cons_succ]
      refine wpAnyH_take (i := 3) (oi := { dst := some 11, op := _, type := _, pos := _, after := _, guard := _ }) (v := ?_) rfl (by kernel_rfl) (by kernel_rfl) (by kernel_rfl) (fun _ _ _ h => h) (Or.inl ⟨by rfl, ?_⟩) (by assumption) ?_
      case refine_2 =>
        intro w hSw
        try dsimp only at hSw
        go_simp
        try with_reducible rfl
      simp only [Act.put, List.setIfInBounds_toArray, List.set_cons_zero, List.set_cons_succ]
      refine wpAnyH_ready (rs := [1]) (by kernel_rfl) (by simp) ?_
      refine AllReadyH.cons (o := { dst := some 9, op := _, type := _, pos := _, after := _, guard := _ }) rfl (fun K hK => ?_) AllReadyH.nil
      go_simp
      refine (next_any (unhide HRD)).mono ?_
      rintro e w3 ⟨b, l3, wb3, rfl, hb0, hb1, hr3, he3, hl3, hw3⟩
      have HR3 := hide hr3
      have HE3 := hide (((unhide HE2).trans (Ext.of_below (Below.drew (Below.refl _ _)))).trans he3)
      have HL3 := hide (Nat.le_trans hl3 (unhide HL2))
      have HW3 := hide hw3
      obtain ⟨g3, cap3, t3, hbk, _⟩ := hr3.blk
      have c1 : w3.cell? ⟨r, 1, none⟩ = some (.bool wb3) := hcell hbk 1
      have f1 := hfroz hbk 1
      clear hr3 he3 hl3 hw3 hbk
      refine hK.out _ _ trivial (fun hHeld2 => ?_)
      clear hK K
      refine wpAnyH_take (i := 4) (oi := { dst := some 12, op := _, type := _, pos := _, after := _, guard := _ }) (v := ?_) rfl (by kernel_rfl) (by kernel_rfl) (by kernel_rfl) (fun _ _ _ h => h) (Or.inl ⟨by rfl, ?_⟩) (by assumption) ?_
      case refine_2 =>
        intro w hSw
        try dsimp only at hSw
        go_simp
        try with_reducible rfl
      simp only [Act.put, List.setIfInBounds_toArray, List.set_cons_zero, List.set_cons_succ]
      refine wpAnyH_done (by kernel_rfl) ?_ _
      have hix : (((⟨#[82, 87, 78, 68]⟩ : ByteArray)[2]'(by decide)).toNat : Int) = 78 := rfl
      try rw [hix]
      by_cases hb : b = 78
      · subst hb
        go_wp2_with fail
        go_roundg (4 - (2 + 1))
        case measure => omega
        case rel =>
          refine ⟨3, by omega, rfl, rfl, l3, wb3, unhide HR3, unhide HE3, unhide HL3, fun q => ?_⟩
          obtain ⟨q, e3⟩ := (unhide HW3) q
          obtain ⟨q, e2⟩ := (unhide HW2) q
          exact ⟨q, by rw [e2, e3]; rfl⟩
      · have hbn : (b != 78) = true := by simpa using hb
        have hbe : (b == 78) = false := by simpa using hb
        go_wp2_with fail
        go_roundg (4 - (2 + 1))
        case measure => omega
        case rel => exact ⟨3, by omega, rfl, rfl, l3, true, (unhide HR3).bad, (unhide HE3).setCell 1 _, unhide HL3, fun q => by cases q⟩
    · subst hk4
      go_wp2_with fail
      refine wp_region_held_drew (S := (fun _ => True)) (by kernel_rfl) trivial (fun hHeld => ?_)
      refine wpAnyH_take (i := 0) (oi := { dst := some 8, op := _, type := _, pos := _, after := _, guard := _ }) (v := ?_) rfl (by kernel_rfl) (by kernel_rfl) (by kernel_rfl) (fun _ _ _ h => h) (Or.inl ⟨by rfl, ?_⟩) (by assumption) ?_
      case refine_2 =>
        intro w hSw
        try dsimp only at hSw
        go_simp
        try with_reducible rfl
      simp only [Act.put, List.setIfInBounds_toArray, List.set_cons_zero, List.set_cons_succ]
      refine wpAnyH_take (i := 2) (oi := { dst := some 10, op := _, type := _, pos := _, after := _, guard := _ }) (v := ?_) rfl (by kernel_rfl) (by kernel_rfl) (by kernel_rfl) (fun _ _ _ h => h) (Or.inl ⟨by rfl, ?_⟩) (by assumption) ?_
      case refine_2 =>
        intro w hSw
        try dsimp only at hSw
        go_simp
        try with_reducible rfl
      simp only [Act.put, List.setIfInBounds_toArray, List.set_cons_zero, List.set_cons_succ]
      refine wpAnyH_take (i := 3) (oi := { dst := some 11, op := _, type := _, pos := _, after := _, guard := _ }) (v := ?_) rfl (by kernel_rfl) (by kernel_rfl) (by kernel_rfl) (fun _ _ _ h => h) (Or.inl ⟨by rfl, ?_⟩) (by assumption) ?_
      case refine_2 =>
        intro w hSw
        try dsimp only at hSw
        go_simp
        try with_reducible rfl
      simp only [Act.put, List.setIfInBounds_toArray, List.set_cons_zero, List.set_cons_succ]
      refine wpAnyH_ready (rs := [1]) (by kernel_rfl) (by simp) ?_
      refine AllReadyH.cons (o := { dst := some 9, op := _, type := _, pos := _, after := _, guard := _ }) rfl (fun K hK => ?_) AllReadyH.nil
      go_simp
      refine (next_any (unhide HRD)).mono ?_
      rintro e w3 ⟨b, l3, wb3, rfl, hb0, hb1, hr3, he3, hl3, hw3⟩
      have HR3 := hide hr3
      have HE3 := hide (((unhide HE2).trans (Ext.of_below (Below.drew (Below.refl _ _)))).trans he3)
      have HL3 := hide (Nat.le_trans hl3 (unhide HL2))
      have HW3 := hide hw3
      obtain ⟨g3, cap3, t3, hbk, _⟩ := hr3.blk
      have c1 : w3.cell? ⟨r, 1, none⟩ = some (.bool wb3) := hcell hbk 1
      have f1 := hfroz hbk 1
      clear hr3 he3 hl3 hw3 hbk
      refine hK.out _ _ trivial (fun hHeld2 => ?_)
      clear hK K
      refine wpAnyH_take (i := 4) (oi := { dst := some 12, op := _, type := _, pos := _, after := _, guard := _ }) (v := ?_) rfl (by kernel_rfl) (by kernel_rfl) (by kernel_rfl) (fun _ _ _ h => h) (Or.inl ⟨by rfl, ?_⟩) (by assumption) ?_
      case refine_2 =>
        intro w hSw
        try dsimp only at hSw
        go_simp
        try with_reducible rfl
      simp only [Act.put, List.setIfInBounds_toArray, List.set_cons_zero, List.set_cons_succ]
      refine wpAnyH_done (by kernel_rfl) ?_ _
      have hix : (((⟨#[82, 87, 78, 68]⟩ : ByteArray)[3]'(by decide)).toNat : Int) = 68 := rfl
      try rw [hix]
      by_cases hb : b = 68
      · subst hb
        go_wp2_with fail
        go_roundg (4 - (3 + 1))
        case measure => omega
        case rel =>
          refine ⟨4, by omega, rfl, rfl, l3, wb3, unhide HR3, unhide HE3, unhide HL3, fun q => ?_⟩
          obtain ⟨q, e3⟩ := (unhide HW3) q
          obtain ⟨q, e2⟩ := (unhide HW2) q
          exact ⟨q, by rw [e2, e3]; rfl⟩
      · have hbn : (b != 68) = true := by simpa using hb
        have hbe : (b == 68) = false := by simpa using hb
        go_wp2_with fail
        go_roundg (4 - (3 + 1))
        case measure => omega
        case rel => exact ⟨4, by omega, rfl, rfl, l3, true, (unhide HR3).bad, (unhide HE3).setCell 1 _, unhide HL3, fun q => by cases q⟩
end Go.Proofs.YtkafldkhmkdafaaDoor

namespace Go.Proofs.YtkafldkhmkdafaaDoor
open Go.RowKit

/-- Bytes lie behind an address. -/
structure BytesAt (w : World) (g : Option Addr) (l : List Int) : Prop where
  cell : ∀ i, i < l.length → ∃ b o, g = some ⟨b, o, none⟩ ∧ w.cell? ⟨b, o + i, none⟩ = some (.int .u8 (l.getD i 0))
  byte : ∀ x ∈ l, 0 ≤ x ∧ x < 256
theorem BytesAt.keep {w w' : World} {g : Option Addr} {l : List Int} (h : BytesAt w g l) (hb : Below w.heap.size w w') : BytesAt w' g l :=
  ⟨fun i hi => by
    obtain ⟨b, o, e, hc⟩ := h.cell i hi
    exact ⟨b, o, e, cellk hb hc (cell_lt hc)⟩, h.byte⟩
theorem BytesAt.take {w : World} {g : Option Addr} {l : List Int} (h : BytesAt w g l) (n : Nat) : BytesAt w g (l.take n) :=
  ⟨fun i hi => by
    have hi' : i < l.length ∧ i < n := by simp at hi; omega
    obtain ⟨b, o, e, hc⟩ := h.cell i hi'.1
    exact ⟨b, o, e, by rw [getD_take hi'.2]; exact hc⟩, fun x hx => h.byte x (List.mem_of_mem_take hx)⟩
theorem take_succ_get {l : List Int} {k : Nat} (h : k < l.length) : l.take (k + 1) = l.take k ++ [l.getD k 0] := by
  rw [List.take_add_one]
  simp [List.getD, h]

set_option maxRecDepth 100000 in
set_option maxHeartbeats 4000000 in
theorem sum_any {w : World} {g : Option Addr} {l : List Int} (h : BytesAt w g l) (cap : Nat) (hl : l.length ≤ 110000) :
    Calls Tryd.prog 21 #[.slice g l.length cap] w fun e w' => e = .returned (.int .i64 (sumL l)) ∧ w' = w := by
  have H := hide h
  clear h
  go_enter Tryd.func21, Tryd.ntmps21
  go_wp2_with fail
  go_loopg [3, 8] l.length (fun gg s i wr => ∃ (k : Nat) (S : Int), k ≤ l.length ∧ gg = l.length - k ∧ i = .int .i64 k ∧ s = .int .i64 S ∧ 0 ≤ S ∧ S < 8191 ∧ Hid (S = sumL (l.take k)) ∧ wr = w)
  case atStart => exact ⟨0, 7, Nat.zero_le _, rfl, rfl, rfl, by omega, by omega, rfl, rfl⟩
  case round =>
    obtain ⟨k, S, hk, rfl, rfl, rfl, hS0, hS1, HS, rfl⟩ := hrel
    by_cases hlk : k < l.length
    · obtain ⟨b, o, rfl, hc⟩ := (unhide H).cell k hlk
      have hx := (unhide H).byte (l.getD k 0) (by rw [show l.getD k 0 = l[k] by simp [List.getD, hlk]]; exact List.getElem_mem _)
      have HT := hide (take_succ_get hlk)
      generalize l.getD k 0 = x at *
      have hk2 : (k : Int) < (l.length : Int) := by omega
      go_wp2_with fail
      go_roundg (l.length - (k + 1))
      case measure => omega
      case rel =>
        refine ⟨k + 1, (37 * S + x) % 8191, by omega, rfl, by go_num, rfl, by omega, by omega, ?_, rfl⟩
        show (37 * S + x) % 8191 = sumL (l.take (k + 1))
        rw [unhide HT, sumL_snoc, ← unhide HS]
    · have hk2 : ¬ (k : Int) < (l.length : Int) := by omega
      go_wp2_with fail
      go_ret
      refine ⟨?_, rfl⟩
      have e := unhide HS
      rw [List.take_of_length_le (by omega)] at e
      exact ri e
end Go.Proofs.YtkafldkhmkdafaaDoor
