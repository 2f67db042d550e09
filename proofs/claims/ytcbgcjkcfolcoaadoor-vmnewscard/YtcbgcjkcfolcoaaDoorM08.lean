/-
  An image is made anew: constants.
-/
import Derived.Test.YtcbgcjkcfolcoaaDoorM07
import Derived.Deep.DrawnRows
import Derived.Deep.RegionLaw
namespace Go.Proofs.YtcbgcjkcfolcoaaDoor
open Go.RowKit
attribute [local go_sem ↓] Go.wp_at_zero Go.wp_at_succ

theorem one_const (a : Bool) (b : ByteArray) (c : Int) : ∀ u ∈ [Value.bool a, .string b, .int .i64 c], u.oneCell' = true := fun u hu => by
  simp at hu
  rcases hu with rfl | rfl | rfl <;> rfl
theorem one_kind (a : ByteArray) (b : Int) (g2 : Option Addr) (n2 c2 : Nat) (g3 : Option Addr) (n3 c3 : Nat) (g4 : Option Addr) (n4 c4 : Nat) : ∀ u ∈ [Value.string a, .int .i64 b, .slice g2 n2 c2, .slice g3 n3 c3, .slice g4 n4 c4], u.oneCell' = true := fun u hu => by
  simp at hu
  rcases hu with rfl | rfl | rfl | rfl | rfl <;> rfl
theorem one_ints3 (a b c : Int) : ∀ u ∈ [Value.int .i64 a, .int .i64 b, .int .i64 c], u.oneCell' = true := fun u hu => by
  simp at hu
  rcases hu with rfl | rfl | rfl <;> rfl
theorem one_var (a : ByteArray) (b c d : Int) (e : Bool) : ∀ u ∈ [Value.string a, .int .i64 b, .int .i64 c, .int .i64 d, .bool e], u.oneCell' = true := fun u hu => by
  simp at hu
  rcases hu with rfl | rfl | rfl | rfl | rfl <;> rfl
theorem one_func (a : ByteArray) (b c : Int) (g2 : Option Addr) (n2 c2 : Nat) (g3 : Option Addr) (n3 c3 : Nat) (g4 : Option Addr) (n4 c4 : Nat) : ∀ u ∈ [Value.string a, .int .i64 b, .int .i64 c, .slice g2 n2 c2, .slice g3 n3 c3, .slice g4 n4 c4], u.oneCell' = true := fun u hu => by
  simp at hu
  rcases hu with rfl | rfl | rfl | rfl | rfl | rfl <;> rfl
theorem ConstsAt.at {w : World} {g : Option Addr} {n : Nat} {l : List PC} (h : RowsAt w g n 3 (constRow l)) {x : Nat} {i : PC} (hi : l[x]? = some i) (hn : x < n) : ∃ b o, g = some ⟨b, o, none⟩ ∧ w.cell? ⟨b, o + x * 3, none⟩ = some (.bool i.text) ∧ w.cell? ⟨b, o + x * 3 + 1, none⟩ = some (.string i.s) ∧ w.cell? ⟨b, o + x * 3 + 2, none⟩ = some (.int .i64 i.n) := by
  obtain ⟨b, o, h1, h2⟩ := h x hn
  refine ⟨b, o, h1, ?_, ?_, ?_⟩
  · have := h2 0 (by omega); rw [constRow, hi] at this; exact this
  · have := h2 1 (by omega); rw [constRow, hi] at this; exact this
  · have := h2 2 (by omega); rw [constRow, hi] at this; exact this

set_option maxRecDepth 100000 in
set_option maxHeartbeats 20000000 in
theorem image_any {w : World} {b : Nat} {m : PM} {vf vc vk : Value} (h : ImgAt w b m vf vc vk) (hK : m.consts.length ≤ 1100) (hF : m.funcs.length ≤ 260) (hL : m.classes.length ≤ 260) :
    Calls Tryd.prog 7 #[.pointer (some ⟨b, 0, none⟩)] w fun e w' => Below w.heap.size w w' ∧ ∃ ib vf' vc' vk', e = .returned (.pointer (some ⟨ib, 0, none⟩)) ∧ ImgAt w' ib m vf' vc' vk' := by
  obtain ⟨RF, ⟨gf, capf, rfl, nf, rf⟩, hRF⟩ := h.img.funcs
  obtain ⟨gc, capc, rfl, nc, rc⟩ := h.img.consts
  obtain ⟨RK, ⟨gk, capk, rfl, nk, rk⟩, hRK⟩ := h.img.classes
  have HRF := hide rf
  have HRRF := hide hRF
  have HRK := hide rk
  have HRRK := hide hRK
  have HRC := hide rc
  have HC0 := hide h.c0
  have HC1 := hide h.c1
  have HC2 := hide h.c2
  obtain ⟨i0, hi, hz0, hz1, hz2⟩ := info_parts infoConst
  obtain ⟨i1, hi1, hy0, hy1, hy2⟩ := info_parts infoKind
  obtain ⟨i2, hi2, hv0, hv1, hv2⟩ := info_parts infoInstr
  obtain ⟨i3, hi3, hs0, hs1, hs2⟩ := info_parts infoHand
  obtain ⟨i4, hi4, ht0, ht1, ht2⟩ := info_parts infoSlot
  obtain ⟨i5, hi5, hf0, hf1, hf2⟩ := info_parts infoFunc
  clear h rf hRF rk hRK rc
  go_enter Tryd.func7, Tryd.ntmps7
  go_wp2_with fail
  obtain ⟨w0, hw0⟩ : ∃ w0, w.alloc (.cells #[.slice none 0 0, .slice none 0 0, .slice none 0 0] 75) = w0 := ⟨_, rfl⟩
  have hb0 : Below w.heap.size w w0 := by rw [← hw0]; exact (Below.refl _ _).alloc (Nat.le_refl _) _
  have hk0 : w0.heap[w.heap.size]? = some (.cells #[.slice none 0 0, .slice none 0 0, .slice none 0 0] 75 (0, 0)) := by rw [← hw0]; exact hnew _ _
  have HB0 := hide hb0
  have HK0 := hide hk0
  rw [hw0]
  clear hw0 hb0 hk0
  go_loopg [4] m.consts.length (fun gg i wr => ∃ k : Nat, k ≤ m.consts.length ∧ gg = m.consts.length - k ∧ i = .int .i64 k ∧ Hid (∃ v xs, Mk w0 wr w.heap.size #[.slice none 0 0, .slice none 0 0, .slice none 0 0] 1 85 3 v k xs ∧ Flat xs k 3 (constRow m.consts)))
  case atStart => exact ⟨0, Nat.zero_le _, rfl, rfl, .slice none 0 0, [], ⟨Ext.refl _ _, ⟨_, unhide HK0⟩, ⟨rfl, Or.inl ⟨rfl, rfl⟩⟩, hlt (unhide HK0), by simp⟩, Flat.nil _ _⟩
  case round =>
    obtain ⟨k, hk, rfl, rfl, HY⟩ := hrel
    obtain ⟨v, xs, hm, hfl⟩ := unhide HY
    have HM := hide hm
    have HFL := hide hfl
    have hbw : Below w.heap.size w wr := (unhide HB0).trans (hm.ext.below (unhide HB0).size (Nat.le_refl _))
    have HBW := hide hbw
    have k1 := cellk hbw (unhide HC1) (cell_lt (unhide HC1))
    by_cases hlk : k < m.consts.length
    · have hx : m.consts[k]? = some (m.consts[k]'hlk) := List.getElem?_eq_getElem _
      generalize (m.consts[k]'hlk) = x at *
      obtain ⟨gb, go, rfl, j0, j1, j2⟩ := ConstsAt.at (unhide HRC) hx hlk
      have l0 := cellk hbw j0 (cell_lt j0)
      have l1 := cellk hbw j1 (cell_lt j1)
      have l2 := cellk hbw j2 (cell_lt j2)
      have hk2 : (k : Int) < (m.consts.length : Int) := by omega
      have d1 := cell_al (unhide HM).cell
      have d2 : ∀ o p, ((wr.alloc o).alloc p).cell? ⟨w.heap.size, 1, none⟩ = some v := fun o p => cell_al (d1 o) p
      have hne : wr.heap.size ≠ w.heap.size := by have := (unhide HM).ext.size; have := (unhide HM).lt; omega
      have HX := hide hx
      have HO := hide (((unhide HM).alloc (.cells #[.bool x.text, .string x.s, .int .i64 x.n] 84)).alloc (.cells #[.bool x.text, .string x.s, .int .i64 x.n] 85))
      clear hx j0 j1 j2 hbw hm hfl HY
      go_wp2_with fail
      refine wp_region_held_drew (S := (fun w' => w'.cell? ⟨wr.heap.size, 0, none⟩ = some (.bool x.text) ∧ w'.cell? ⟨wr.heap.size, 1, none⟩ = some (.string x.s) ∧ w'.cell? ⟨wr.heap.size, 2, none⟩ = some (.int .i64 x.n))) (by kernel_rfl) (by go_keep) (fun hHeld => ?_)
      refine wpAnyH_take (i := 0) (oi := { dst := some 34, op := _, type := _, pos := _, after := _, guard := _ }) (v := ?_) rfl (by kernel_rfl) (by kernel_rfl) (by kernel_rfl) (fun _ _ _ h => h) (Or.inl ⟨by rfl, ?_⟩) (by assumption) ?_
      case refine_2 =>
        intro w hSw
        try dsimp only at hSw
        go_simp
        try with_reducible rfl
      simp only [Act.put, List.setIfInBounds_toArray, List.set_cons_zero, List.set_cons_succ]
      refine wpAnyH_take (i := 1) (oi := { dst := some 35, op := _, type := _, pos := _, after := _, guard := _ }) (v := ?_) rfl (by kernel_rfl) (by kernel_rfl) (by kernel_rfl) (fun _ _ _ h => h) (Or.inl ⟨by rfl, ?_⟩) (by assumption) ?_
      case refine_2 =>
        intro w hSw
        try dsimp only at hSw
        go_simp
        try with_reducible rfl
      simp only [Act.put, List.setIfInBounds_toArray, List.set_cons_zero, List.set_cons_succ]
      refine wpAnyH_take (i := 2) (oi := { dst := some 36, op := _, type := _, pos := _, after := _, guard := _ }) (v := ?_) rfl (by kernel_rfl) (by kernel_rfl) (by kernel_rfl) (fun _ _ _ h => h) (Or.inl ⟨by rfl, ?_⟩) (by assumption) ?_
      case refine_2 =>
        intro w hSw
        try dsimp only at hSw
        go_simp
        try with_reducible rfl
      simp only [Act.put, List.setIfInBounds_toArray, List.set_cons_zero, List.set_cons_succ]
      refine wpAnyH_take (i := 3) (oi := { dst := some 37, op := _, type := _, pos := _, after := _, guard := _ }) (v := ?_) rfl (by kernel_rfl) (by kernel_rfl) (by kernel_rfl) (fun _ _ _ h => h) (Or.inl ⟨by rfl, ?_⟩) (by assumption) ?_
      case refine_2 =>
        intro w hSw
        try dsimp only at hSw
        go_simp
        try with_reducible rfl
      simp only [Act.put, List.setIfInBounds_toArray, List.set_cons_zero, List.set_cons_succ]
      refine wpAnyH_take (i := 5) (oi := { dst := some 39, op := _, type := _, pos := _, after := _, guard := _ }) (v := ?_) rfl (by kernel_rfl) (by kernel_rfl) (by kernel_rfl) (fun _ _ _ h => h) (Or.inl ⟨by rfl, ?_⟩) (by assumption) ?_
      case refine_2 =>
        intro w hSw
        try dsimp only at hSw
        go_simp
        try with_reducible rfl
      simp only [Act.put, List.setIfInBounds_toArray, List.set_cons_zero, List.set_cons_succ]
      refine wpAnyH_take (i := 6) (oi := { dst := some 40, op := _, type := _, pos := _, after := _, guard := _ }) (v := ?_) rfl (by kernel_rfl) (by kernel_rfl) (by kernel_rfl) (fun _ _ _ h => h) (Or.inl ⟨by rfl, ?_⟩) (by assumption) ?_
      case refine_2 =>
        intro w hSw
        try dsimp only at hSw
        go_simp
        try with_reducible rfl
      simp only [Act.put, List.setIfInBounds_toArray, List.set_cons_zero, List.set_cons_succ]
      refine wpAnyH_take (i := 7) (oi := { dst := some 41, op := _, type := _, pos := _, after := _, guard := _ }) (v := ?_) rfl (by kernel_rfl) (by kernel_rfl) (by kernel_rfl) (fun _ _ _ h => h) (Or.inl ⟨by rfl, ?_⟩) (by assumption) ?_
      case refine_2 =>
        intro w hSw
        try dsimp only at hSw
        go_simp
        try with_reducible rfl
      simp only [Act.put, List.setIfInBounds_toArray, List.set_cons_zero, List.set_cons_succ]
      refine wpAnyH_take (i := 8) (oi := { dst := some 42, op := _, type := _, pos := _, after := _, guard := _ }) (v := ?_) rfl (by kernel_rfl) (by kernel_rfl) (by kernel_rfl) (fun _ _ _ h => h) (Or.inl ⟨by rfl, ?_⟩) (by assumption) ?_
      case refine_2 =>
        intro w hSw
        try dsimp only at hSw
        go_simp
        try with_reducible rfl
      simp only [Act.put, List.setIfInBounds_toArray, List.set_cons_zero, List.set_cons_succ]
      refine wpAnyH_take (i := 9) (oi := { dst := some 43, op := _, type := _, pos := _, after := _, guard := _ }) (v := ?_) rfl (by kernel_rfl) (by kernel_rfl) (by kernel_rfl) (fun _ _ _ h => h) (Or.inl ⟨by rfl, ?_⟩) (by assumption) ?_
      case refine_2 =>
        intro w hSw
        try dsimp only at hSw
        go_simp
        try with_reducible rfl
      simp only [Act.put, List.setIfInBounds_toArray, List.set_cons_zero, List.set_cons_succ]
      refine wpAnyH_take (i := 10) (oi := { dst := some 44, op := _, type := _, pos := _, after := _, guard := _ }) (v := ?_) rfl (by kernel_rfl) (by kernel_rfl) (by kernel_rfl) (fun _ _ _ h => h) (Or.inl ⟨by rfl, ?_⟩) (by assumption) ?_
      case refine_2 =>
        intro w hSw
        try dsimp only at hSw
        go_simp
        try with_reducible rfl
      simp only [Act.put, List.setIfInBounds_toArray, List.set_cons_zero, List.set_cons_succ]
      refine wpAnyH_take (i := 11) (oi := { dst := some 45, op := _, type := _, pos := _, after := _, guard := _ }) (v := ?_) rfl (by kernel_rfl) (by kernel_rfl) (by kernel_rfl) (fun _ _ _ h => h) (Or.inl ⟨by rfl, ?_⟩) (by assumption) ?_
      case refine_2 =>
        intro w hSw
        try dsimp only at hSw
        go_simp
        try with_reducible rfl
      simp only [Act.put, List.setIfInBounds_toArray, List.set_cons_zero, List.set_cons_succ]
      refine wpAnyH_ready (rs := [4, 12]) (by kernel_rfl) (by simp) ?_
      refine AllReadyH.cons (o := { dst := some 38, op := _, type := _, pos := _, after := _, guard := _ }) rfl (fun K hK => ?_) ?_
      · go_simp
        refine hK.out _ _ (by assumption) (fun hHeld4 => ?_)
        clear hK K
        refine wpAnyH_ready (rs := [12]) (by kernel_rfl) (by simp) ?_
        refine AllReadyH.cons (o := { dst := some 46, op := _, type := _, pos := _, after := _, guard := _ }) rfl (fun K hK => ?_) AllReadyH.nil
        go_simp
        refine hK.out _ _ (by go_keep) (fun hHeld12 => ?_)
        clear hK K
        refine wpAnyH_ready (rs := [13]) (by kernel_rfl) (by simp) ?_
        refine AllReadyH.cons (o := { dst := some 47, op := _, type := _, pos := _, after := _, guard := _ }) rfl (fun K hK => ?_) AllReadyH.nil
        refine step_append_lies _ (by rfl) _ _ _ (by rfl) w0.heap.size 85 i0 (.agg #[.bool false, .string ByteArray.empty, .int .i64 0]) 3 32 Tryd.underlying72 hi hz0 hz1 hz2 rfl (by decide) v k xs (by rfl) (unhide HO).own ⟨wr.heap.size + 1, 0, none⟩ 1 1 [.bool x.text, .string x.s, .int .i64 x.n] (by rfl) rfl (news_at (by simp) _ _) (one_const _ _ _) (by decide) (by unfold maxLen; omega) (by omega) (by have := (unhide HM).ext.size; simp; omega) (wr.heap.size + 1 + 1) (by simp) ?_
        intro g cap w3 hown hgrow hat hlt3
        obtain ⟨e6, f6, hc6, HMK⟩ := (unhide HM).grow (by rfl) (by rfl) (by rfl) (by rfl) hown hgrow hat
        have s6 : ∀ u, (w3.setCell ⟨w.heap.size, 1, none⟩ u).heap[wr.heap.size]? = _ := fun u => (hother u hne).trans hc6
        clear hown hgrow hat hlt3
        refine hK.out _ _ ⟨hcell hc6 0, hcell hc6 1, hcell hc6 2⟩ (fun hHeldA => ?_)
        clear hK K
        simp only [Act.put, List.setIfInBounds_toArray, List.set_cons_zero, List.set_cons_succ]
        refine wpAnyH_take (i := 14) (oi := { dst := some 48, op := _, type := _, pos := _, after := _, guard := _ }) (v := ?_) rfl (by kernel_rfl) (by kernel_rfl) (by kernel_rfl) (fun _ _ _ h => h) (Or.inl ⟨by rfl, ?_⟩) (by assumption) ?_
        case refine_2 =>
          intro w hSw
          try dsimp only at hSw
          go_simp
          try with_reducible rfl
        simp only [Act.put, List.setIfInBounds_toArray, List.set_cons_zero, List.set_cons_succ]
        refine wpAnyH_take (i := 15) (oi := { dst := some 49, op := _, type := _, pos := _, after := _, guard := _ }) (v := ?_) rfl (by kernel_rfl) (by kernel_rfl) (by kernel_rfl) (fun _ _ _ h => h) (Or.inl ⟨by rfl, ?_⟩) (by assumption) ?_
        case refine_2 =>
          intro w hSw
          try dsimp only at hSw
          go_simp
          try with_reducible rfl
        simp only [Act.put, List.setIfInBounds_toArray, List.set_cons_zero, List.set_cons_succ]
        refine wpAnyH_ready (rs := [16]) (by kernel_rfl) (by simp) ?_
        refine AllReadyH.cons (o := { dst := none, op := _, type := _, pos := _, after := _, guard := _ }) rfl (fun K hK => ?_) AllReadyH.nil
        go_simp
        refine hK.out _ _ ⟨hcell (s6 _) 0, hcell (s6 _) 1, hcell (s6 _) 2⟩ (fun hHeldS => ?_)
        clear hK K
        refine wpAnyH_done (by kernel_rfl) ?_ _
        go_wp2_with fail
        go_roundg (m.consts.length - (k + 1))
        case measure => omega
        case rel =>
          refine ⟨k + 1, by omega, rfl, by go_num, _, _, unhide HMK, (unhide HFL).snoc (unhide HM).own.1 fun j hj => ?_⟩
          rw [constRow, unhide HX]
          match j, hj with
          | 0, _ => rfl
          | 1, _ => rfl
          | 2, _ => rfl
      refine AllReadyH.cons (o := { dst := some 46, op := _, type := _, pos := _, after := _, guard := _ }) rfl (fun K hK => ?_) AllReadyH.nil
      go_simp
      refine hK.out _ _ (by go_keep) (fun hHeld12 => ?_)
      clear hK K
      refine wpAnyH_ready (rs := [4]) (by kernel_rfl) (by simp) ?_
      refine AllReadyH.cons (o := { dst := some 38, op := _, type := _, pos := _, after := _, guard := _ }) rfl (fun K hK => ?_) AllReadyH.nil
      go_simp
      refine hK.out _ _ (by assumption) (fun hHeld4 => ?_)
      clear hK K
      refine wpAnyH_ready (rs := [13]) (by kernel_rfl) (by simp) ?_
      refine AllReadyH.cons (o := { dst := some 47, op := _, type := _, pos := _, after := _, guard := _ }) rfl (fun K hK => ?_) AllReadyH.nil
      refine step_append_lies _ (by rfl) _ _ _ (by rfl) w0.heap.size 85 i0 (.agg #[.bool false, .string ByteArray.empty, .int .i64 0]) 3 32 Tryd.underlying72 hi hz0 hz1 hz2 rfl (by decide) v k xs (by rfl) (unhide HO).own ⟨wr.heap.size + 1, 0, none⟩ 1 1 [.bool x.text, .string x.s, .int .i64 x.n] (by rfl) rfl (news_at (by simp) _ _) (one_const _ _ _) (by decide) (by unfold maxLen; omega) (by omega) (by have := (unhide HM).ext.size; simp; omega) (wr.heap.size + 1 + 1) (by simp) ?_
      intro g cap w3 hown hgrow hat hlt3
      obtain ⟨e6, f6, hc6, HMK⟩ := (unhide HM).grow (by rfl) (by rfl) (by rfl) (by rfl) hown hgrow hat
      have s6 : ∀ u, (w3.setCell ⟨w.heap.size, 1, none⟩ u).heap[wr.heap.size]? = _ := fun u => (hother u hne).trans hc6
      clear hown hgrow hat hlt3
      refine hK.out _ _ ⟨hcell hc6 0, hcell hc6 1, hcell hc6 2⟩ (fun hHeldA => ?_)
      clear hK K
      simp only [Act.put, List.setIfInBounds_toArray, List.set_cons_zero, List.set_cons_succ]
      refine wpAnyH_take (i := 14) (oi := { dst := some 48, op := _, type := _, pos := _, after := _, guard := _ }) (v := ?_) rfl (by kernel_rfl) (by kernel_rfl) (by kernel_rfl) (fun _ _ _ h => h) (Or.inl ⟨by rfl, ?_⟩) (by assumption) ?_
      case refine_2 =>
        intro w hSw
        try dsimp only at hSw
        go_simp
        try with_reducible rfl
      simp only [Act.put, List.setIfInBounds_toArray, List.set_cons_zero, List.set_cons_succ]
      refine wpAnyH_take (i := 15) (oi := { dst := some 49, op := _, type := _, pos := _, after := _, guard := _ }) (v := ?_) rfl (by kernel_rfl) (by kernel_rfl) (by kernel_rfl) (fun _ _ _ h => h) (Or.inl ⟨by rfl, ?_⟩) (by assumption) ?_
      case refine_2 =>
        intro w hSw
        try dsimp only at hSw
        go_simp
        try with_reducible rfl
      simp only [Act.put, List.setIfInBounds_toArray, List.set_cons_zero, List.set_cons_succ]
      refine wpAnyH_ready (rs := [16]) (by kernel_rfl) (by simp) ?_
      refine AllReadyH.cons (o := { dst := none, op := _, type := _, pos := _, after := _, guard := _ }) rfl (fun K hK => ?_) AllReadyH.nil
      go_simp
      refine hK.out _ _ ⟨hcell (s6 _) 0, hcell (s6 _) 1, hcell (s6 _) 2⟩ (fun hHeldS => ?_)
      clear hK K
      refine wpAnyH_done (by kernel_rfl) ?_ _
      go_wp2_with fail
      go_roundg (m.consts.length - (k + 1))
      case measure => omega
      case rel =>
        refine ⟨k + 1, by omega, rfl, by go_num, _, _, unhide HMK, (unhide HFL).snoc (unhide HM).own.1 fun j hj => ?_⟩
        rw [constRow, unhide HX]
        match j, hj with
        | 0, _ => rfl
        | 1, _ => rfl
        | 2, _ => rfl
    · have hkl : k = m.consts.length := by omega
      subst hkl
      rename World => w1
      have hk2 : ¬ ((m.consts.length : Int) < (m.consts.length : Int)) := by omega
      obtain ⟨t1, hb1⟩ := (unhide HM).blk
      have HB1 := hide hb1
      have k2 := cellk hbw (unhide HC2) (cell_lt (unhide HC2))
      clear hb1 hm hfl HY hbw
      go_wp2_with fail
      go_loopg [6] m.classes.length (fun gg i wr => ∃ k : Nat, k ≤ m.classes.length ∧ gg = m.classes.length - k ∧ i = .int .i64 k ∧ Hid (∃ v2 x2, Mk w1 wr w.heap.size #[.slice none 0 0, v, .slice none 0 0] 2 76 5 v2 k x2 ∧ Flat x2 k 5 RK))
      case atStart => exact ⟨0, Nat.zero_le _, rfl, rfl, .slice none 0 0, [], ⟨Ext.refl _ _, ⟨_, unhide HB1⟩, ⟨rfl, Or.inl ⟨rfl, rfl⟩⟩, hlt (unhide HB1), by simp⟩, Flat.nil _ _⟩
      case round =>
        clear k1 k2 hk2
        obtain ⟨k, hk, rfl, rfl, HY⟩ := hrel
        obtain ⟨v2, x2, hm, hfl⟩ := unhide HY
        have HM2 := hide hm
        have HFL2 := hide hfl
        have hbw : Below w.heap.size w wr := (unhide HBW).trans (hm.ext.below (unhide HBW).size (Nat.le_refl _))
        have HBW2 := hide hbw
        have k1 := cellk hbw (unhide HC2) (cell_lt (unhide HC2))
        by_cases hlk : k < m.classes.length
        · have hx : m.classes[k]? = some (m.classes[k]'hlk) := List.getElem?_eq_getElem _
          generalize (m.classes[k]'hlk) = x at *
          obtain ⟨gb, go, rfl, hkd⟩ := KdAt.of_rows (unhide HRK) hlk ((unhide HRRK) _ _ hx)
          obtain ⟨E0, E1, ⟨g2, cap2, E2, _⟩, ⟨g3, cap3, E3, _⟩, ⟨g4, cap4, E4, _⟩⟩ := hkd.kd
          have l0 := cellk hbw hkd.c0 (cell_lt hkd.c0)
          have l1 := cellk hbw hkd.c1 (cell_lt hkd.c1)
          have l2 := cellk hbw hkd.c2 (cell_lt hkd.c2)
          have l3 := cellk hbw hkd.c3 (cell_lt hkd.c3)
          have l4 := cellk hbw hkd.c4 (cell_lt hkd.c4)
          rw [E2] at l2
          rw [E3] at l3
          rw [E4] at l4
          have HE0 := hide E0
          have HE1 := hide E1
          have HE2 := hide E2
          have HE3 := hide E3
          have HE4 := hide E4
          have hk2 : (k : Int) < (m.classes.length : Int) := by omega
          have d1 := cell_al (unhide HM2).cell
          have d2 : ∀ o p, ((wr.alloc o).alloc p).cell? ⟨w.heap.size, 2, none⟩ = some v2 := fun o p => cell_al (d1 o) p
          have hne : wr.heap.size ≠ w.heap.size := by have := (unhide HM2).ext.size; have := (unhide HM2).lt; omega
          have HX := hide hx
          have HO := hide (((unhide HM2).alloc (.cells #[.string x.name, .int .i64 x.above, .slice g2 x.fields.length cap2, .slice g3 x.names.length cap3, .slice g4 x.meths.length cap4] 54)).alloc (.cells #[.string x.name, .int .i64 x.above, .slice g2 x.fields.length cap2, .slice g3 x.names.length cap3, .slice g4 x.meths.length cap4] 76))
          clear hx hkd hbw hm hfl HY E0 E1 E2 E3 E4
          go_wp2_with fail
          refine wp_region_held_drew (S := (fun w' => w'.cell? ⟨wr.heap.size, 0, none⟩ = some (.string x.name) ∧ w'.cell? ⟨wr.heap.size, 1, none⟩ = some (.int .i64 x.above) ∧ w'.cell? ⟨wr.heap.size, 2, none⟩ = some (.slice g2 x.fields.length cap2) ∧ w'.cell? ⟨wr.heap.size, 3, none⟩ = some (.slice g3 x.names.length cap3) ∧ w'.cell? ⟨wr.heap.size, 4, none⟩ = some (.slice g4 x.meths.length cap4))) (by kernel_rfl) (by go_keep) (fun hHeld => ?_)
          refine wpAnyH_take (i := 0) (oi := { dst := some 66, op := _, type := _, pos := _, after := _, guard := _ }) (v := ?_) rfl (by kernel_rfl) (by kernel_rfl) (by kernel_rfl) (fun _ _ _ h => h) (Or.inl ⟨by rfl, ?_⟩) (by assumption) ?_
          case refine_2 =>
            intro w hSw
            try dsimp only at hSw
            go_simp
            try with_reducible rfl
          simp only [Act.put, List.setIfInBounds_toArray, List.set_cons_zero, List.set_cons_succ]
          refine wpAnyH_take (i := 1) (oi := { dst := some 67, op := _, type := _, pos := _, after := _, guard := _ }) (v := ?_) rfl (by kernel_rfl) (by kernel_rfl) (by kernel_rfl) (fun _ _ _ h => h) (Or.inl ⟨by rfl, ?_⟩) (by assumption) ?_
          case refine_2 =>
            intro w hSw
            try dsimp only at hSw
            go_simp
            try with_reducible rfl
          simp only [Act.put, List.setIfInBounds_toArray, List.set_cons_zero, List.set_cons_succ]
          refine wpAnyH_take (i := 2) (oi := { dst := some 68, op := _, type := _, pos := _, after := _, guard := _ }) (v := ?_) rfl (by kernel_rfl) (by kernel_rfl) (by kernel_rfl) (fun _ _ _ h => h) (Or.inl ⟨by rfl, ?_⟩) (by assumption) ?_
          case refine_2 =>
            intro w hSw
            try dsimp only at hSw
            go_simp
            try with_reducible rfl
          simp only [Act.put, List.setIfInBounds_toArray, List.set_cons_zero, List.set_cons_succ]
          refine wpAnyH_take (i := 3) (oi := { dst := some 69, op := _, type := _, pos := _, after := _, guard := _ }) (v := ?_) rfl (by kernel_rfl) (by kernel_rfl) (by kernel_rfl) (fun _ _ _ h => h) (Or.inl ⟨by rfl, ?_⟩) (by assumption) ?_
          case refine_2 =>
            intro w hSw
            try dsimp only at hSw
            go_simp
            try with_reducible rfl
          simp only [Act.put, List.setIfInBounds_toArray, List.set_cons_zero, List.set_cons_succ]
          refine wpAnyH_take (i := 5) (oi := { dst := some 71, op := _, type := _, pos := _, after := _, guard := _ }) (v := ?_) rfl (by kernel_rfl) (by kernel_rfl) (by kernel_rfl) (fun _ _ _ h => h) (Or.inl ⟨by rfl, ?_⟩) (by assumption) ?_
          case refine_2 =>
            intro w hSw
            try dsimp only at hSw
            go_simp
            try with_reducible rfl
          simp only [Act.put, List.setIfInBounds_toArray, List.set_cons_zero, List.set_cons_succ]
          refine wpAnyH_take (i := 6) (oi := { dst := some 72, op := _, type := _, pos := _, after := _, guard := _ }) (v := ?_) rfl (by kernel_rfl) (by kernel_rfl) (by kernel_rfl) (fun _ _ _ h => h) (Or.inl ⟨by rfl, ?_⟩) (by assumption) ?_
          case refine_2 =>
            intro w hSw
            try dsimp only at hSw
            go_simp
            try with_reducible rfl
          simp only [Act.put, List.setIfInBounds_toArray, List.set_cons_zero, List.set_cons_succ]
          refine wpAnyH_take (i := 7) (oi := { dst := some 73, op := _, type := _, pos := _, after := _, guard := _ }) (v := ?_) rfl (by kernel_rfl) (by kernel_rfl) (by kernel_rfl) (fun _ _ _ h => h) (Or.inl ⟨by rfl, ?_⟩) (by assumption) ?_
          case refine_2 =>
            intro w hSw
            try dsimp only at hSw
            go_simp
            try with_reducible rfl
          simp only [Act.put, List.setIfInBounds_toArray, List.set_cons_zero, List.set_cons_succ]
          refine wpAnyH_take (i := 8) (oi := { dst := some 74, op := _, type := _, pos := _, after := _, guard := _ }) (v := ?_) rfl (by kernel_rfl) (by kernel_rfl) (by kernel_rfl) (fun _ _ _ h => h) (Or.inl ⟨by rfl, ?_⟩) (by assumption) ?_
          case refine_2 =>
            intro w hSw
            try dsimp only at hSw
            go_simp
            try with_reducible rfl
          simp only [Act.put, List.setIfInBounds_toArray, List.set_cons_zero, List.set_cons_succ]
          refine wpAnyH_take (i := 9) (oi := { dst := some 75, op := _, type := _, pos := _, after := _, guard := _ }) (v := ?_) rfl (by kernel_rfl) (by kernel_rfl) (by kernel_rfl) (fun _ _ _ h => h) (Or.inl ⟨by rfl, ?_⟩) (by assumption) ?_
          case refine_2 =>
            intro w hSw
            try dsimp only at hSw
            go_simp
            try with_reducible rfl
          simp only [Act.put, List.setIfInBounds_toArray, List.set_cons_zero, List.set_cons_succ]
          refine wpAnyH_take (i := 10) (oi := { dst := some 76, op := _, type := _, pos := _, after := _, guard := _ }) (v := ?_) rfl (by kernel_rfl) (by kernel_rfl) (by kernel_rfl) (fun _ _ _ h => h) (Or.inl ⟨by rfl, ?_⟩) (by assumption) ?_
          case refine_2 =>
            intro w hSw
            try dsimp only at hSw
            go_simp
            try with_reducible rfl
          simp only [Act.put, List.setIfInBounds_toArray, List.set_cons_zero, List.set_cons_succ]
          refine wpAnyH_take (i := 11) (oi := { dst := some 77, op := _, type := _, pos := _, after := _, guard := _ }) (v := ?_) rfl (by kernel_rfl) (by kernel_rfl) (by kernel_rfl) (fun _ _ _ h => h) (Or.inl ⟨by rfl, ?_⟩) (by assumption) ?_
          case refine_2 =>
            intro w hSw
            try dsimp only at hSw
            go_simp
            try with_reducible rfl
          simp only [Act.put, List.setIfInBounds_toArray, List.set_cons_zero, List.set_cons_succ]
          refine wpAnyH_take (i := 12) (oi := { dst := some 78, op := _, type := _, pos := _, after := _, guard := _ }) (v := ?_) rfl (by kernel_rfl) (by kernel_rfl) (by kernel_rfl) (fun _ _ _ h => h) (Or.inl ⟨by rfl, ?_⟩) (by assumption) ?_
          case refine_2 =>
            intro w hSw
            try dsimp only at hSw
            go_simp
            try with_reducible rfl
          simp only [Act.put, List.setIfInBounds_toArray, List.set_cons_zero, List.set_cons_succ]
          refine wpAnyH_take (i := 13) (oi := { dst := some 79, op := _, type := _, pos := _, after := _, guard := _ }) (v := ?_) rfl (by kernel_rfl) (by kernel_rfl) (by kernel_rfl) (fun _ _ _ h => h) (Or.inl ⟨by rfl, ?_⟩) (by assumption) ?_
          case refine_2 =>
            intro w hSw
            try dsimp only at hSw
            go_simp
            try with_reducible rfl
          simp only [Act.put, List.setIfInBounds_toArray, List.set_cons_zero, List.set_cons_succ]
          refine wpAnyH_take (i := 14) (oi := { dst := some 80, op := _, type := _, pos := _, after := _, guard := _ }) (v := ?_) rfl (by kernel_rfl) (by kernel_rfl) (by kernel_rfl) (fun _ _ _ h => h) (Or.inl ⟨by rfl, ?_⟩) (by assumption) ?_
          case refine_2 =>
            intro w hSw
            try dsimp only at hSw
            go_simp
            try with_reducible rfl
          simp only [Act.put, List.setIfInBounds_toArray, List.set_cons_zero, List.set_cons_succ]
          refine wpAnyH_take (i := 15) (oi := { dst := some 81, op := _, type := _, pos := _, after := _, guard := _ }) (v := ?_) rfl (by kernel_rfl) (by kernel_rfl) (by kernel_rfl) (fun _ _ _ h => h) (Or.inl ⟨by rfl, ?_⟩) (by assumption) ?_
          case refine_2 =>
            intro w hSw
            try dsimp only at hSw
            go_simp
            try with_reducible rfl
          simp only [Act.put, List.setIfInBounds_toArray, List.set_cons_zero, List.set_cons_succ]
          refine wpAnyH_ready (rs := [4, 16]) (by kernel_rfl) (by simp) ?_
          refine AllReadyH.cons (o := { dst := some 70, op := _, type := _, pos := _, after := _, guard := _ }) rfl (fun K hK => ?_) ?_
          · go_simp
            refine hK.out _ _ (by assumption) (fun hHeld4 => ?_)
            clear hK K
            refine wpAnyH_ready (rs := [16]) (by kernel_rfl) (by simp) ?_
            refine AllReadyH.cons (o := { dst := some 82, op := _, type := _, pos := _, after := _, guard := _ }) rfl (fun K hK => ?_) AllReadyH.nil
            go_simp
            refine hK.out _ _ (by go_keep) (fun hHeld16 => ?_)
            clear hK K
            refine wpAnyH_ready (rs := [17]) (by kernel_rfl) (by simp) ?_
            refine AllReadyH.cons (o := { dst := some 83, op := _, type := _, pos := _, after := _, guard := _ }) rfl (fun K hK => ?_) AllReadyH.nil
            refine step_append_lies _ (by rfl) _ _ _ (by rfl) w1.heap.size 76 i1 (.agg #[.string ByteArray.empty, .int .i64 0, .slice none 0 0, .slice none 0 0, .slice none 0 0]) 5 96 Tryd.underlying73 hi1 hy0 hy1 hy2 rfl (by decide) v2 k x2 (by rfl) (unhide HO).own ⟨wr.heap.size + 1, 0, none⟩ 1 1 [.string x.name, .int .i64 x.above, .slice g2 x.fields.length cap2, .slice g3 x.names.length cap3, .slice g4 x.meths.length cap4] (by rfl) rfl (news_at (by simp) _ _) (one_kind _ _ _ _ _ _ _ _ _ _ _) (by decide) (by unfold maxLen; omega) (by omega) (by have := (unhide HM2).ext.size; simp; omega) (wr.heap.size + 1 + 1) (by simp) ?_
            intro g cap w3 hown hgrow hat hlt3
            obtain ⟨e6, f6, hc6, HMK⟩ := (unhide HM2).grow (by rfl) (by rfl) (by rfl) (by rfl) hown hgrow hat
            have s6 : ∀ u, (w3.setCell ⟨w.heap.size, 2, none⟩ u).heap[wr.heap.size]? = _ := fun u => (hother u hne).trans hc6
            clear hown hgrow hat hlt3
            refine hK.out _ _ ⟨hcell hc6 0, hcell hc6 1, hcell hc6 2, hcell hc6 3, hcell hc6 4⟩ (fun hHeldA => ?_)
            clear hK K
            simp only [Act.put, List.setIfInBounds_toArray, List.set_cons_zero, List.set_cons_succ]
            refine wpAnyH_take (i := 18) (oi := { dst := some 84, op := _, type := _, pos := _, after := _, guard := _ }) (v := ?_) rfl (by kernel_rfl) (by kernel_rfl) (by kernel_rfl) (fun _ _ _ h => h) (Or.inl ⟨by rfl, ?_⟩) (by assumption) ?_
            case refine_2 =>
              intro w hSw
              try dsimp only at hSw
              go_simp
              try with_reducible rfl
            simp only [Act.put, List.setIfInBounds_toArray, List.set_cons_zero, List.set_cons_succ]
            refine wpAnyH_take (i := 19) (oi := { dst := some 85, op := _, type := _, pos := _, after := _, guard := _ }) (v := ?_) rfl (by kernel_rfl) (by kernel_rfl) (by kernel_rfl) (fun _ _ _ h => h) (Or.inl ⟨by rfl, ?_⟩) (by assumption) ?_
            case refine_2 =>
              intro w hSw
              try dsimp only at hSw
              go_simp
              try with_reducible rfl
            simp only [Act.put, List.setIfInBounds_toArray, List.set_cons_zero, List.set_cons_succ]
            refine wpAnyH_ready (rs := [20]) (by kernel_rfl) (by simp) ?_
            refine AllReadyH.cons (o := { dst := none, op := _, type := _, pos := _, after := _, guard := _ }) rfl (fun K hK => ?_) AllReadyH.nil
            go_simp
            refine hK.out _ _ ⟨hcell (s6 _) 0, hcell (s6 _) 1, hcell (s6 _) 2, hcell (s6 _) 3, hcell (s6 _) 4⟩ (fun hHeldS => ?_)
            clear hK K
            refine wpAnyH_done (by kernel_rfl) ?_ _
            go_wp2_with fail
            go_roundg (m.classes.length - (k + 1))
            case measure => omega
            case rel =>
              refine ⟨k + 1, by omega, rfl, by go_num, _, _, unhide HMK, (unhide HFL2).snoc (unhide HM2).own.1 fun j hj => ?_⟩
              match j, hj with
              | 0, _ => exact congrArg some (unhide HE0).symm
              | 1, _ => exact congrArg some (unhide HE1).symm
              | 2, _ => exact congrArg some (unhide HE2).symm
              | 3, _ => exact congrArg some (unhide HE3).symm
              | 4, _ => exact congrArg some (unhide HE4).symm
          refine AllReadyH.cons (o := { dst := some 82, op := _, type := _, pos := _, after := _, guard := _ }) rfl (fun K hK => ?_) AllReadyH.nil
          go_simp
          refine hK.out _ _ (by go_keep) (fun hHeld16 => ?_)
          clear hK K
          refine wpAnyH_ready (rs := [4]) (by kernel_rfl) (by simp) ?_
          refine AllReadyH.cons (o := { dst := some 70, op := _, type := _, pos := _, after := _, guard := _ }) rfl (fun K hK => ?_) AllReadyH.nil
          go_simp
          refine hK.out _ _ (by assumption) (fun hHeld4 => ?_)
          clear hK K
          refine wpAnyH_ready (rs := [17]) (by kernel_rfl) (by simp) ?_
          refine AllReadyH.cons (o := { dst := some 83, op := _, type := _, pos := _, after := _, guard := _ }) rfl (fun K hK => ?_) AllReadyH.nil
          refine step_append_lies _ (by rfl) _ _ _ (by rfl) w1.heap.size 76 i1 (.agg #[.string ByteArray.empty, .int .i64 0, .slice none 0 0, .slice none 0 0, .slice none 0 0]) 5 96 Tryd.underlying73 hi1 hy0 hy1 hy2 rfl (by decide) v2 k x2 (by rfl) (unhide HO).own ⟨wr.heap.size + 1, 0, none⟩ 1 1 [.string x.name, .int .i64 x.above, .slice g2 x.fields.length cap2, .slice g3 x.names.length cap3, .slice g4 x.meths.length cap4] (by rfl) rfl (news_at (by simp) _ _) (one_kind _ _ _ _ _ _ _ _ _ _ _) (by decide) (by unfold maxLen; omega) (by omega) (by have := (unhide HM2).ext.size; simp; omega) (wr.heap.size + 1 + 1) (by simp) ?_
          intro g cap w3 hown hgrow hat hlt3
          obtain ⟨e6, f6, hc6, HMK⟩ := (unhide HM2).grow (by rfl) (by rfl) (by rfl) (by rfl) hown hgrow hat
          have s6 : ∀ u, (w3.setCell ⟨w.heap.size, 2, none⟩ u).heap[wr.heap.size]? = _ := fun u => (hother u hne).trans hc6
          clear hown hgrow hat hlt3
          refine hK.out _ _ ⟨hcell hc6 0, hcell hc6 1, hcell hc6 2, hcell hc6 3, hcell hc6 4⟩ (fun hHeldA => ?_)
          clear hK K
          simp only [Act.put, List.setIfInBounds_toArray, List.set_cons_zero, List.set_cons_succ]
          refine wpAnyH_take (i := 18) (oi := { dst := some 84, op := _, type := _, pos := _, after := _, guard := _ }) (v := ?_) rfl (by kernel_rfl) (by kernel_rfl) (by kernel_rfl) (fun _ _ _ h => h) (Or.inl ⟨by rfl, ?_⟩) (by assumption) ?_
          case refine_2 =>
            intro w hSw
            try dsimp only at hSw
            go_simp
            try with_reducible rfl
          simp only [Act.put, List.setIfInBounds_toArray, List.set_cons_zero, List.set_cons_succ]
          refine wpAnyH_take (i := 19) (oi := { dst := some 85, op := _, type := _, pos := _, after := _, guard := _ }) (v := ?_) rfl (by kernel_rfl) (by kernel_rfl) (by kernel_rfl) (fun _ _ _ h => h) (Or.inl ⟨by rfl, ?_⟩) (by assumption) ?_
          case refine_2 =>
            intro w hSw
            try dsimp only at hSw
            go_simp
            try with_reducible rfl
          simp only [Act.put, List.setIfInBounds_toArray, List.set_cons_zero, List.set_cons_succ]
          refine wpAnyH_ready (rs := [20]) (by kernel_rfl) (by simp) ?_
          refine AllReadyH.cons (o := { dst := none, op := _, type := _, pos := _, after := _, guard := _ }) rfl (fun K hK => ?_) AllReadyH.nil
          go_simp
          refine hK.out _ _ ⟨hcell (s6 _) 0, hcell (s6 _) 1, hcell (s6 _) 2, hcell (s6 _) 3, hcell (s6 _) 4⟩ (fun hHeldS => ?_)
          clear hK K
          refine wpAnyH_done (by kernel_rfl) ?_ _
          go_wp2_with fail
          go_roundg (m.classes.length - (k + 1))
          case measure => omega
          case rel =>
            refine ⟨k + 1, by omega, rfl, by go_num, _, _, unhide HMK, (unhide HFL2).snoc (unhide HM2).own.1 fun j hj => ?_⟩
            match j, hj with
            | 0, _ => exact congrArg some (unhide HE0).symm
            | 1, _ => exact congrArg some (unhide HE1).symm
            | 2, _ => exact congrArg some (unhide HE2).symm
            | 3, _ => exact congrArg some (unhide HE3).symm
            | 4, _ => exact congrArg some (unhide HE4).symm
        · have hkl : k = m.classes.length := by omega
          subst hkl
          rename World => w2
          have hk2 : ¬ ((m.classes.length : Int) < (m.classes.length : Int)) := by omega
          obtain ⟨t2, hb2⟩ := (unhide HM2).blk
          have HB2 := hide hb2
          have k2 := cellk hbw (unhide HC0) (cell_lt (unhide HC0))
          clear hb2 hm hfl HY hbw
          go_wp2_with fail
          go_loopg [8] m.funcs.length (fun gg i wr => ∃ k : Nat, k ≤ m.funcs.length ∧ gg = m.funcs.length - k ∧ i = .int .i64 k ∧ Hid (∃ v3 x3 R, Mk w2 wr w.heap.size #[.slice none 0 0, v, v2] 0 81 6 v3 k x3 ∧ Flat x3 k 6 R ∧ Fns wr w.heap.size v3 R m.funcs k))
          case atStart => exact ⟨0, Nat.zero_le _, rfl, rfl, .slice none 0 0, [], fun _ _ => undef, Mk.start (unhide HB2) (by simp), Flat.nil _ _, fun _ _ q => absurd q (Nat.not_lt_zero _)⟩
          case round =>
            clear k1 k2 hk2
            obtain ⟨k, hk, rfl, rfl, HY⟩ := hrel
            obtain ⟨v3, x3, R, hm, hfl, hfs⟩ := unhide HY
            have HM3 := hide hm
            have HFL3 := hide hfl
            have HFS := hide hfs
            have hbw : Below w.heap.size w wr := (unhide HBW2).trans (hm.ext.below (unhide HBW2).size (Nat.le_refl _))
            have HBW3 := hide hbw
            have k1 := cellk hbw (unhide HC0) (cell_lt (unhide HC0))
            by_cases hlk : k < m.funcs.length
            · rename World => wf
              have hx : m.funcs[k]? = some (m.funcs[k]'hlk) := List.getElem?_eq_getElem _
              generalize (m.funcs[k]'hlk) = x at *
              obtain ⟨fb, fo, rfl, hfn⟩ := FnAt.of_rows (unhide HRF) hlk ((unhide HRRF) _ _ hx)
              obtain ⟨E0, E1, E2, ⟨ga, capa, E3, na, ra⟩, ⟨gh, caph, E4, nh, rh⟩, ⟨gv, capv, E5, nv, rv⟩⟩ := hfn.fn
              have l0 := cellk hbw hfn.c0 (cell_lt hfn.c0)
              have l1 := cellk hbw hfn.c1 (cell_lt hfn.c1)
              have l2 := cellk hbw hfn.c2 (cell_lt hfn.c2)
              have l3 := cellk hbw hfn.c3 (cell_lt hfn.c3)
              have l4 := cellk hbw hfn.c4 (cell_lt hfn.c4)
              have l5 := cellk hbw hfn.c5 (cell_lt hfn.c5)
              rw [E3] at l3
              rw [E4] at l4
              rw [E5] at l5
              have HRA := hide ra
              have HRH := hide rh
              have HRV := hide rv
              have hk2 : (k : Int) < (m.funcs.length : Int) := by omega
              have HX := hide hx
              clear hx hfn hbw hm hfl hfs HY E0 E1 E2 E3 E4 E5 ra rh rv
              go_wp2_with fail
              obtain ⟨wa, hwa⟩ : ∃ wa, (wf.alloc (.cells #[.string x.name, .int .i64 x.params, .int .i64 x.slots, .slice ga x.code.length capa, .slice gh x.hands.length caph, .slice gv x.vars.length capv] 51)).alloc (.cells #[.string x.name, .int .i64 x.params, .int .i64 x.slots, .slice none 0 0, .slice none 0 0, .slice none 0 0] 81) = wa := ⟨_, rfl⟩
              have hbf : Below wf.heap.size wf wa := by rw [← hwa]; exact ((Below.refl _ _).alloc (Nat.le_refl _) _).alloc (by simp) _
              have hba : Below w.heap.size w wa := by rw [← hwa]; exact ((unhide HBW3).alloc (unhide HBW3).size _).alloc (by have := (unhide HBW3).size; simp; omega) _
              have hfa : wa.heap[wf.heap.size]? = some (.cells #[.string x.name, .int .i64 x.params, .int .i64 x.slots, .slice ga x.code.length capa, .slice gh x.hands.length caph, .slice gv x.vars.length capv] 51 (0, 0)) := by rw [← hwa, Below.heap_alloc _ _ _ (by simp)]; exact hnew _ _
              have hga : wa.heap[wf.heap.size + 1]? = some (.cells #[.string x.name, .int .i64 x.params, .int .i64 x.slots, .slice none 0 0, .slice none 0 0, .slice none 0 0] 81 (0, 0)) := by rw [← hwa]; simpa using hnew (wf.alloc (.cells #[.string x.name, .int .i64 x.params, .int .i64 x.slots, .slice ga x.code.length capa, .slice gh x.hands.length caph, .slice gv x.vars.length capv] 51)) (.cells #[.string x.name, .int .i64 x.params, .int .i64 x.slots, .slice none 0 0, .slice none 0 0, .slice none 0 0] 81)
              have HBF := hide hbf
              have HBA := hide hba
              have HFA := hide hfa
              have HGA := hide hga
              rw [hwa]
              have hsf : w.heap.size ≤ wf.heap.size := (unhide HBW3).size
              have hsa : wf.heap.size + 1 < wa.heap.size := hlt hga
              clear hwa hbf hba hfa hga k1 hk2 l0 l1 l2 l3 l4 l5
              go_loopg [11] x.code.length (fun gg i wr => ∃ k : Nat, k ≤ x.code.length ∧ gg = x.code.length - k ∧ i = .int .i64 k ∧ Hid (∃ va xa, Mk wa wr (wf.heap.size + 1) #[.string x.name, .int .i64 x.params, .int .i64 x.slots, .slice none 0 0, .slice none 0 0, .slice none 0 0] 3 88 3 va k xa ∧ Flat xa k 3 (instrRow x.code)))
              case atStart => exact ⟨0, Nat.zero_le _, rfl, rfl, .slice none 0 0, [], Mk.start (unhide HGA) (by simp), Flat.nil _ _⟩
              case round =>
                obtain ⟨p, hp, rfl, rfl, HY⟩ := hrel
                obtain ⟨va, xa, hm, hfl⟩ := unhide HY
                have HMA := hide hm
                have HFLA := hide hfl
                have hfw : wr.heap[wf.heap.size]? = some (.cells #[.string x.name, .int .i64 x.params, .int .i64 x.slots, .slice ga x.code.length capa, .slice gh x.hands.length caph, .slice gv x.vars.length capv] 51 (0, 0)) := (hm.ext.block _ (hlt (unhide HFA)) (by omega)).trans (unhide HFA)
                have k1 : wr.cell? ⟨wf.heap.size, 3, none⟩ = some (.slice ga x.code.length capa) := hcell hfw 3
                have hbw : Below w.heap.size w wr := (unhide HBA).trans (hm.ext.below (unhide HBA).size (by omega))
                by_cases hlp : p < x.code.length
                · have hy : x.code[p]? = some (x.code[p]'hlp) := List.getElem?_eq_getElem _
                  generalize (x.code[p]'hlp) = y at *
                  obtain ⟨qb, qo, rfl, j0, j1, j2⟩ := InstrsAt.row (unhide HRA) hy hlp
                  have hq := cell_lt j0
                  have l0 := cellk hbw j0 (cell_lt j0)
                  have l1 := cellk hbw j1 (cell_lt j1)
                  have l2 := cellk hbw j2 (cell_lt j2)
                  dsimp only at hq
                  have hk2 : (p : Int) < (x.code.length : Int) := by omega
                  have d0 := (unhide HMA).cell
                  have d1 := cell_al (unhide HMA).cell
                  have hnO : ∀ j, j < wf.heap.size + 1 → va.ownBlock ≠ some j := fun j hj e => by have := (unhide HMA).own_ne j e; omega
                  have hwr : wa.heap.size ≤ wr.heap.size := hm.ext.size
                  have hq0 : wf.heap.size < wf.heap.size + 1 := by omega
                  have hq1 : qb < wf.heap.size + 1 := by omega
                  have HY2 := hide hy
                  have HO := hide ((unhide HMA).alloc (.cells #[.int .i64 y.op, .int .i64 y.a, .int .i64 y.b] 88))
                  clear hy j0 j1 j2 hbw hm hfl HY hfw
                  go_wp2_with fail
                  refine wp_region_held_drew (S := (fun w' => w'.cell? ⟨wf.heap.size, 3, none⟩ = some (.slice (some ⟨qb, qo, none⟩) x.code.length capa) ∧ w'.cell? ⟨qb, qo + p * 3, none⟩ = some (.int .i64 y.op) ∧ w'.cell? ⟨qb, qo + p * 3 + 1, none⟩ = some (.int .i64 y.a) ∧ w'.cell? ⟨qb, qo + p * 3 + 2, none⟩ = some (.int .i64 y.b))) (by kernel_rfl) (by go_keep) (fun hHeld => ?_)
                  refine wpAnyH_take (i := 0) (oi := { dst := some 116, op := _, type := _, pos := _, after := _, guard := _ }) (v := ?_) rfl (by kernel_rfl) (by kernel_rfl) (by kernel_rfl) (fun _ _ _ h => h) (Or.inl ⟨by rfl, ?_⟩) (by assumption) ?_
                  case refine_2 =>
                    intro w hSw
                    try dsimp only at hSw
                    go_simp
                    try with_reducible rfl
                  simp only [Act.put, List.setIfInBounds_toArray, List.set_cons_zero, List.set_cons_succ]
                  refine wpAnyH_take (i := 2) (oi := { dst := some 118, op := _, type := _, pos := _, after := _, guard := _ }) (v := ?_) rfl (by kernel_rfl) (by kernel_rfl) (by kernel_rfl) (fun _ _ _ h => h) (Or.inl ⟨by rfl, ?_⟩) (by assumption) ?_
                  case refine_2 =>
                    intro w hSw
                    try dsimp only at hSw
                    go_simp
                    try with_reducible rfl
                  simp only [Act.put, List.setIfInBounds_toArray, List.set_cons_zero, List.set_cons_succ]
                  refine wpAnyH_take (i := 3) (oi := { dst := some 119, op := _, type := _, pos := _, after := _, guard := _ }) (v := ?_) rfl (by kernel_rfl) (by kernel_rfl) (by kernel_rfl) (fun _ _ _ h => h) (Or.inl ⟨by rfl, ?_⟩) (by assumption) ?_
                  case refine_2 =>
                    intro w hSw
                    try dsimp only at hSw
                    go_simp
                    try with_reducible rfl
                  simp only [Act.put, List.setIfInBounds_toArray, List.set_cons_zero, List.set_cons_succ]
                  refine wpAnyH_take (i := 4) (oi := { dst := some 120, op := _, type := _, pos := _, after := _, guard := _ }) (v := ?_) rfl (by kernel_rfl) (by kernel_rfl) (by kernel_rfl) (fun _ _ _ h => h) (Or.inl ⟨by rfl, ?_⟩) (by assumption) ?_
                  case refine_2 =>
                    intro w hSw
                    try dsimp only at hSw
                    go_simp
                    try with_reducible rfl
                  simp only [Act.put, List.setIfInBounds_toArray, List.set_cons_zero, List.set_cons_succ]
                  refine wpAnyH_take (i := 5) (oi := { dst := some 121, op := _, type := _, pos := _, after := _, guard := _ }) (v := ?_) rfl (by kernel_rfl) (by kernel_rfl) (by kernel_rfl) (fun _ _ _ h => h) (Or.inl ⟨by rfl, ?_⟩) (by assumption) ?_
                  case refine_2 =>
                    intro w hSw
                    try dsimp only at hSw
                    go_simp
                    try with_reducible rfl
                  simp only [Act.put, List.setIfInBounds_toArray, List.set_cons_zero, List.set_cons_succ]
                  refine wpAnyH_take (i := 6) (oi := { dst := some 122, op := _, type := _, pos := _, after := _, guard := _ }) (v := ?_) rfl (by kernel_rfl) (by kernel_rfl) (by kernel_rfl) (fun _ _ _ h => h) (Or.inl ⟨by rfl, ?_⟩) (by assumption) ?_
                  case refine_2 =>
                    intro w hSw
                    try dsimp only at hSw
                    go_simp
                    try with_reducible rfl
                  simp only [Act.put, List.setIfInBounds_toArray, List.set_cons_zero, List.set_cons_succ]
                  refine wpAnyH_take (i := 7) (oi := { dst := some 123, op := _, type := _, pos := _, after := _, guard := _ }) (v := ?_) rfl (by kernel_rfl) (by kernel_rfl) (by kernel_rfl) (fun _ _ _ h => h) (Or.inl ⟨by rfl, ?_⟩) (by assumption) ?_
                  case refine_2 =>
                    intro w hSw
                    try dsimp only at hSw
                    go_simp
                    try with_reducible rfl
                  simp only [Act.put, List.setIfInBounds_toArray, List.set_cons_zero, List.set_cons_succ]
                  refine wpAnyH_take (i := 8) (oi := { dst := some 124, op := _, type := _, pos := _, after := _, guard := _ }) (v := ?_) rfl (by kernel_rfl) (by kernel_rfl) (by kernel_rfl) (fun _ _ _ h => h) (Or.inl ⟨by rfl, ?_⟩) (by assumption) ?_
                  case refine_2 =>
                    intro w hSw
                    try dsimp only at hSw
                    go_simp
                    try with_reducible rfl
                  simp only [Act.put, List.setIfInBounds_toArray, List.set_cons_zero, List.set_cons_succ]
                  refine wpAnyH_take (i := 9) (oi := { dst := some 125, op := _, type := _, pos := _, after := _, guard := _ }) (v := ?_) rfl (by kernel_rfl) (by kernel_rfl) (by kernel_rfl) (fun _ _ _ h => h) (Or.inl ⟨by rfl, ?_⟩) (by assumption) ?_
                  case refine_2 =>
                    intro w hSw
                    try dsimp only at hSw
                    go_simp
                    try with_reducible rfl
                  simp only [Act.put, List.setIfInBounds_toArray, List.set_cons_zero, List.set_cons_succ]
                  refine wpAnyH_take (i := 10) (oi := { dst := some 126, op := _, type := _, pos := _, after := _, guard := _ }) (v := ?_) rfl (by kernel_rfl) (by kernel_rfl) (by kernel_rfl) (fun _ _ _ h => h) (Or.inl ⟨by rfl, ?_⟩) (by assumption) ?_
                  case refine_2 =>
                    intro w hSw
                    try dsimp only at hSw
                    go_simp
                    try with_reducible rfl
                  simp only [Act.put, List.setIfInBounds_toArray, List.set_cons_zero, List.set_cons_succ]
                  refine wpAnyH_take (i := 11) (oi := { dst := some 127, op := _, type := _, pos := _, after := _, guard := _ }) (v := ?_) rfl (by kernel_rfl) (by kernel_rfl) (by kernel_rfl) (fun _ _ _ h => h) (Or.inl ⟨by rfl, ?_⟩) (by assumption) ?_
                  case refine_2 =>
                    intro w hSw
                    try dsimp only at hSw
                    go_simp
                    try with_reducible rfl
                  simp only [Act.put, List.setIfInBounds_toArray, List.set_cons_zero, List.set_cons_succ]
                  refine wpAnyH_take (i := 12) (oi := { dst := some 128, op := _, type := _, pos := _, after := _, guard := _ }) (v := ?_) rfl (by kernel_rfl) (by kernel_rfl) (by kernel_rfl) (fun _ _ _ h => h) (Or.inl ⟨by rfl, ?_⟩) (by assumption) ?_
                  case refine_2 =>
                    intro w hSw
                    try dsimp only at hSw
                    go_simp
                    try with_reducible rfl
                  simp only [Act.put, List.setIfInBounds_toArray, List.set_cons_zero, List.set_cons_succ]
                  refine wpAnyH_take (i := 13) (oi := { dst := some 129, op := _, type := _, pos := _, after := _, guard := _ }) (v := ?_) rfl (by kernel_rfl) (by kernel_rfl) (by kernel_rfl) (fun _ _ _ h => h) (Or.inl ⟨by rfl, ?_⟩) (by assumption) ?_
                  case refine_2 =>
                    intro w hSw
                    try dsimp only at hSw
                    go_simp
                    try with_reducible rfl
                  simp only [Act.put, List.setIfInBounds_toArray, List.set_cons_zero, List.set_cons_succ]
                  refine wpAnyH_take (i := 14) (oi := { dst := some 130, op := _, type := _, pos := _, after := _, guard := _ }) (v := ?_) rfl (by kernel_rfl) (by kernel_rfl) (by kernel_rfl) (fun _ _ _ h => h) (Or.inl ⟨by rfl, ?_⟩) (by assumption) ?_
                  case refine_2 =>
                    intro w hSw
                    try dsimp only at hSw
                    go_simp
                    try with_reducible rfl
                  simp only [Act.put, List.setIfInBounds_toArray, List.set_cons_zero, List.set_cons_succ]
                  refine wpAnyH_take (i := 15) (oi := { dst := some 131, op := _, type := _, pos := _, after := _, guard := _ }) (v := ?_) rfl (by kernel_rfl) (by kernel_rfl) (by kernel_rfl) (fun _ _ _ h => h) (Or.inl ⟨by rfl, ?_⟩) (by assumption) ?_
                  case refine_2 =>
                    intro w hSw
                    try dsimp only at hSw
                    go_simp
                    try with_reducible rfl
                  simp only [Act.put, List.setIfInBounds_toArray, List.set_cons_zero, List.set_cons_succ]
                  refine wpAnyH_take (i := 16) (oi := { dst := some 132, op := _, type := _, pos := _, after := _, guard := _ }) (v := ?_) rfl (by kernel_rfl) (by kernel_rfl) (by kernel_rfl) (fun _ _ _ h => h) (Or.inl ⟨by rfl, ?_⟩) (by assumption) ?_
                  case refine_2 =>
                    intro w hSw
                    try dsimp only at hSw
                    go_simp
                    try with_reducible rfl
                  simp only [Act.put, List.setIfInBounds_toArray, List.set_cons_zero, List.set_cons_succ]
                  refine wpAnyH_take (i := 17) (oi := { dst := some 133, op := _, type := _, pos := _, after := _, guard := _ }) (v := ?_) rfl (by kernel_rfl) (by kernel_rfl) (by kernel_rfl) (fun _ _ _ h => h) (Or.inl ⟨by rfl, ?_⟩) (by assumption) ?_
                  case refine_2 =>
                    intro w hSw
                    try dsimp only at hSw
                    go_simp
                    try with_reducible rfl
                  simp only [Act.put, List.setIfInBounds_toArray, List.set_cons_zero, List.set_cons_succ]
                  refine wpAnyH_take (i := 18) (oi := { dst := some 134, op := _, type := _, pos := _, after := _, guard := _ }) (v := ?_) rfl (by kernel_rfl) (by kernel_rfl) (by kernel_rfl) (fun _ _ _ h => h) (Or.inl ⟨by rfl, ?_⟩) (by assumption) ?_
                  case refine_2 =>
                    intro w hSw
                    try dsimp only at hSw
                    go_simp
                    try with_reducible rfl
                  simp only [Act.put, List.setIfInBounds_toArray, List.set_cons_zero, List.set_cons_succ]
                  refine wpAnyH_take (i := 19) (oi := { dst := some 135, op := _, type := _, pos := _, after := _, guard := _ }) (v := ?_) rfl (by kernel_rfl) (by kernel_rfl) (by kernel_rfl) (fun _ _ _ h => h) (Or.inl ⟨by rfl, ?_⟩) (by assumption) ?_
                  case refine_2 =>
                    intro w hSw
                    try dsimp only at hSw
                    go_simp
                    try with_reducible rfl
                  simp only [Act.put, List.setIfInBounds_toArray, List.set_cons_zero, List.set_cons_succ]
                  refine wpAnyH_take (i := 20) (oi := { dst := some 136, op := _, type := _, pos := _, after := _, guard := _ }) (v := ?_) rfl (by kernel_rfl) (by kernel_rfl) (by kernel_rfl) (fun _ _ _ h => h) (Or.inl ⟨by rfl, ?_⟩) (by assumption) ?_
                  case refine_2 =>
                    intro w hSw
                    try dsimp only at hSw
                    go_simp
                    try with_reducible rfl
                  simp only [Act.put, List.setIfInBounds_toArray, List.set_cons_zero, List.set_cons_succ]
                  refine wpAnyH_ready (rs := [1, 21]) (by kernel_rfl) (by simp) ?_
                  refine AllReadyH.cons (o := { dst := some 117, op := _, type := _, pos := _, after := _, guard := _ }) rfl (fun K hK => ?_) ?_
                  · go_simp
                    refine hK.out _ _ (by assumption) (fun hHeld1 => ?_)
                    clear hK K
                    refine wpAnyH_ready (rs := [21]) (by kernel_rfl) (by simp) ?_
                    refine AllReadyH.cons (o := { dst := some 137, op := _, type := _, pos := _, after := _, guard := _ }) rfl (fun K hK => ?_) AllReadyH.nil
                    go_simp
                    refine hK.out _ _ (by go_keep) (fun hHeld21 => ?_)
                    clear hK K
                    refine wpAnyH_ready (rs := [22]) (by kernel_rfl) (by simp) ?_
                    refine AllReadyH.cons (o := { dst := some 138, op := _, type := _, pos := _, after := _, guard := _ }) rfl (fun K hK => ?_) AllReadyH.nil
                    refine step_append_lies _ (by rfl) _ _ _ (by rfl) wa.heap.size 88 i2 (.agg #[.int .i64 0, .int .i64 0, .int .i64 0]) 3 24 Tryd.underlying77 hi2 hv0 hv1 hv2 rfl (by decide) va p xa (by rfl) (unhide HO).own ⟨wr.heap.size, 0, none⟩ 1 1 [.int .i64 y.op, .int .i64 y.a, .int .i64 y.b] (by rfl) rfl (news_at (by simp) _ _) (one_ints3 _ _ _) (by decide) (by unfold maxLen; omega) (by omega) (by have := (unhide HMA).ext.size; simp; omega) (wr.heap.size + 1) (by simp) ?_
                    intro g cap w3 hown hgrow hat hlt3
                    obtain ⟨e6, f6, hc6, HMK⟩ := (unhide HMA).grow1 (by rfl) (by rfl) (by rfl) (by rfl) hown hgrow hat
                    have s3 : ∀ j, j < wf.heap.size + 1 → w3.heap[j]? = wr.heap[j]? := fun j hj => hc6 j (by omega) (hnO j hj)
                    have s4 : ∀ u j, j < wf.heap.size + 1 → (w3.setCell ⟨wf.heap.size + 1, 3, none⟩ u).heap[j]? = wr.heap[j]? := fun u j hj => (hother u (by omega)).trans (s3 j hj)
                    clear hown hgrow hat hlt3 hc6
                    refine hK.out _ _ ⟨(World.cell?_of_block (s3 _ hq0)).trans k1, (World.cell?_of_block (s3 _ hq1)).trans l0, (World.cell?_of_block (s3 _ hq1)).trans l1, (World.cell?_of_block (s3 _ hq1)).trans l2⟩ (fun hHeldA => ?_)
                    clear hK K
                    simp only [Act.put, List.setIfInBounds_toArray, List.set_cons_zero, List.set_cons_succ]
                    refine wpAnyH_take (i := 23) (oi := { dst := some 139, op := _, type := _, pos := _, after := _, guard := _ }) (v := ?_) rfl (by kernel_rfl) (by kernel_rfl) (by kernel_rfl) (fun _ _ _ h => h) (Or.inl ⟨by rfl, ?_⟩) (by assumption) ?_
                    case refine_2 =>
                      intro w hSw
                      try dsimp only at hSw
                      go_simp
                      try with_reducible rfl
                    simp only [Act.put, List.setIfInBounds_toArray, List.set_cons_zero, List.set_cons_succ]
                    refine wpAnyH_ready (rs := [24]) (by kernel_rfl) (by simp) ?_
                    refine AllReadyH.cons (o := { dst := none, op := _, type := _, pos := _, after := _, guard := _ }) rfl (fun K hK => ?_) AllReadyH.nil
                    go_simp
                    refine hK.out _ _ ⟨(World.cell?_of_block (s4 _ _ hq0)).trans k1, (World.cell?_of_block (s4 _ _ hq1)).trans l0, (World.cell?_of_block (s4 _ _ hq1)).trans l1, (World.cell?_of_block (s4 _ _ hq1)).trans l2⟩ (fun hHeldS => ?_)
                    clear hK K
                    refine wpAnyH_done (by kernel_rfl) ?_ _
                    go_wp2_with fail
                    go_roundg (x.code.length - (p + 1))
                    case measure => omega
                    case rel =>
                      refine ⟨p + 1, by omega, rfl, by go_num, _, _, unhide HMK, (unhide HFLA).snoc (unhide HMA).own.1 fun j hj => ?_⟩
                      rw [instrRow, unhide HY2]
                      match j, hj with
                      | 0, _ => rfl
                      | 1, _ => rfl
                      | 2, _ => rfl
                  refine AllReadyH.cons (o := { dst := some 137, op := _, type := _, pos := _, after := _, guard := _ }) rfl (fun K hK => ?_) AllReadyH.nil
                  go_simp
                  refine hK.out _ _ (by go_keep) (fun hHeld21 => ?_)
                  clear hK K
                  refine wpAnyH_ready (rs := [1]) (by kernel_rfl) (by simp) ?_
                  refine AllReadyH.cons (o := { dst := some 117, op := _, type := _, pos := _, after := _, guard := _ }) rfl (fun K hK => ?_) AllReadyH.nil
                  go_simp
                  refine hK.out _ _ (by assumption) (fun hHeld1 => ?_)
                  clear hK K
                  refine wpAnyH_ready (rs := [22]) (by kernel_rfl) (by simp) ?_
                  refine AllReadyH.cons (o := { dst := some 138, op := _, type := _, pos := _, after := _, guard := _ }) rfl (fun K hK => ?_) AllReadyH.nil
                  refine step_append_lies _ (by rfl) _ _ _ (by rfl) wa.heap.size 88 i2 (.agg #[.int .i64 0, .int .i64 0, .int .i64 0]) 3 24 Tryd.underlying77 hi2 hv0 hv1 hv2 rfl (by decide) va p xa (by rfl) (unhide HO).own ⟨wr.heap.size, 0, none⟩ 1 1 [.int .i64 y.op, .int .i64 y.a, .int .i64 y.b] (by rfl) rfl (news_at (by simp) _ _) (one_ints3 _ _ _) (by decide) (by unfold maxLen; omega) (by omega) (by have := (unhide HMA).ext.size; simp; omega) (wr.heap.size + 1) (by simp) ?_
                  intro g cap w3 hown hgrow hat hlt3
                  obtain ⟨e6, f6, hc6, HMK⟩ := (unhide HMA).grow1 (by rfl) (by rfl) (by rfl) (by rfl) hown hgrow hat
                  have s3 : ∀ j, j < wf.heap.size + 1 → w3.heap[j]? = wr.heap[j]? := fun j hj => hc6 j (by omega) (hnO j hj)
                  have s4 : ∀ u j, j < wf.heap.size + 1 → (w3.setCell ⟨wf.heap.size + 1, 3, none⟩ u).heap[j]? = wr.heap[j]? := fun u j hj => (hother u (by omega)).trans (s3 j hj)
                  clear hown hgrow hat hlt3 hc6
                  refine hK.out _ _ ⟨(World.cell?_of_block (s3 _ hq0)).trans k1, (World.cell?_of_block (s3 _ hq1)).trans l0, (World.cell?_of_block (s3 _ hq1)).trans l1, (World.cell?_of_block (s3 _ hq1)).trans l2⟩ (fun hHeldA => ?_)
                  clear hK K
                  simp only [Act.put, List.setIfInBounds_toArray, List.set_cons_zero, List.set_cons_succ]
                  refine wpAnyH_take (i := 23) (oi := { dst := some 139, op := _, type := _, pos := _, after := _, guard := _ }) (v := ?_) rfl (by kernel_rfl) (by kernel_rfl) (by kernel_rfl) (fun _ _ _ h => h) (Or.inl ⟨by rfl, ?_⟩) (by assumption) ?_
                  case refine_2 =>
                    intro w hSw
                    try dsimp only at hSw
                    go_simp
                    try with_reducible rfl
                  simp only [Act.put, List.setIfInBounds_toArray, List.set_cons_zero, List.set_cons_succ]
                  refine wpAnyH_ready (rs := [24]) (by kernel_rfl) (by simp) ?_
                  refine AllReadyH.cons (o := { dst := none, op := _, type := _, pos := _, after := _, guard := _ }) rfl (fun K hK => ?_) AllReadyH.nil
                  go_simp
                  refine hK.out _ _ ⟨(World.cell?_of_block (s4 _ _ hq0)).trans k1, (World.cell?_of_block (s4 _ _ hq1)).trans l0, (World.cell?_of_block (s4 _ _ hq1)).trans l1, (World.cell?_of_block (s4 _ _ hq1)).trans l2⟩ (fun hHeldS => ?_)
                  clear hK K
                  refine wpAnyH_done (by kernel_rfl) ?_ _
                  go_wp2_with fail
                  go_roundg (x.code.length - (p + 1))
                  case measure => omega
                  case rel =>
                    refine ⟨p + 1, by omega, rfl, by go_num, _, _, unhide HMK, (unhide HFLA).snoc (unhide HMA).own.1 fun j hj => ?_⟩
                    rw [instrRow, unhide HY2]
                    match j, hj with
                    | 0, _ => rfl
                    | 1, _ => rfl
                    | 2, _ => rfl
                · have hpl : p = x.code.length := by omega
                  subst hpl
                  rename World => wb
                  have hk2 : ¬ ((x.code.length : Int) < (x.code.length : Int)) := by omega
                  obtain ⟨tt, hb3⟩ := (unhide HMA).blk
                  have HGwb := hide hb3
                  have k2 : wb.cell? ⟨wf.heap.size, 4, none⟩ = some (.slice gh x.hands.length caph) := hcell hfw 4
                  have HFwb := hide hfw
                  have HBwb := hide hbw
                  have hswb : wa.heap.size ≤ wb.heap.size := hm.ext.size
                  clear hb3 hm hfl HY hbw hfw
                  go_wp2_with fail
                  clear k1 k2 hk2
                  go_loopg [12] x.hands.length (fun gg i wr => ∃ k : Nat, k ≤ x.hands.length ∧ gg = x.hands.length - k ∧ i = .int .i64 k ∧ Hid (∃ vx xx, Mk wb wr (wf.heap.size + 1) #[.string x.name, .int .i64 x.params, .int .i64 x.slots, va, .slice none 0 0, .slice none 0 0] 4 91 3 vx k xx ∧ Flat xx k 3 (handRow x.hands)))
                  case atStart => exact ⟨0, Nat.zero_le _, rfl, rfl, .slice none 0 0, [], Mk.start (unhide HGwb) (by simp), Flat.nil _ _⟩
                  case round =>
                    obtain ⟨r, hr, rfl, rfl, HY⟩ := hrel
                    obtain ⟨vb, xb, hm, hfl⟩ := unhide HY
                    have HMB := hide hm
                    have HFLB := hide hfl
                    have hfw : wr.heap[wf.heap.size]? = some (.cells #[.string x.name, .int .i64 x.params, .int .i64 x.slots, .slice ga x.code.length capa, .slice gh x.hands.length caph, .slice gv x.vars.length capv] 51 (0, 0)) := (hm.ext.block _ (hlt (unhide HFwb)) (by omega)).trans (unhide HFwb)
                    have k1 : wr.cell? ⟨wf.heap.size, 4, none⟩ = some (.slice gh x.hands.length caph) := hcell hfw 4
                    have hbw : Below w.heap.size w wr := (unhide HBwb).trans (hm.ext.below (unhide HBwb).size (by omega))
                    by_cases hlp : r < x.hands.length
                    · have hy : x.hands[r]? = some (x.hands[r]'hlp) := List.getElem?_eq_getElem _
                      generalize (x.hands[r]'hlp) = y at *
                      obtain ⟨qb, qo, rfl, j0, j1, j2⟩ := HandsAt.at (unhide HRH) hy hlp
                      have l0 := cellk hbw j0 (cell_lt j0)
                      have l1 := cellk hbw j1 (cell_lt j1)
                      have l2 := cellk hbw j2 (cell_lt j2)
                      have hk2 : (r : Int) < (x.hands.length : Int) := by omega
                      have hwr : wb.heap.size ≤ wr.heap.size := hm.ext.size
                      have HY2 := hide hy
                      have HO := hide (((unhide HMB).alloc (.cells #[.int .i64 y.fr, .int .i64 y.to, .int .i64 y.tg] 90)).alloc (.cells #[.int .i64 y.fr, .int .i64 y.to, .int .i64 y.tg] 91)).own
                      have d0 := (unhide HMB).cell
                      have d1 := cell_al (unhide HMB).cell
                      have d2 : ∀ o p, ((wr.alloc o).alloc p).cell? ⟨wf.heap.size + 1, 4, none⟩ = some vb := fun o p => cell_al (d1 o) p
                      clear hy j0 j1 j2 hbw hm hfl HY hfw
                      go_wp2_with (at_builtin; refine wpList_append_lies _ rfl _ _ _ rfl wb.heap.size 91 i3 (.agg #[.int .i64 0, .int .i64 0, .int .i64 0]) 3 24 Tryd.underlying78 hi3 hs0 hs1 hs2 rfl (by decide) vb r xb rfl (unhide HO) ⟨wr.heap.size + 1, 0, none⟩ 1 1 [.int .i64 y.fr, .int .i64 y.to, .int .i64 y.tg] rfl rfl (news_at ?c1 _ _) ?c2 (by decide) ?c3 ?c4 ?c5 (wr.heap.size + 1 + 1) ?c6 ?_)
                      case c1 => simp
                      case c2 => exact one_ints3 _ _ _
                      case c3 => unfold maxLen; omega
                      case c4 => omega
                      case c5 => simp; omega
                      case c6 => simp
                      intro g cap w3 hown hgrow hat hlt3
                      obtain ⟨e6, f6, hc6, HMK⟩ := (unhide HMB).grow rfl rfl rfl rfl hown hgrow hat
                      clear hown hgrow hat hlt3 hc6 d0 d1 d2
                      go_wp2_with fail
                      go_roundg (x.hands.length - (r + 1))
                      case measure => omega
                      case rel =>
                        refine ⟨r + 1, by omega, rfl, by go_num, _, _, unhide HMK, (unhide HFLB).snoc (unhide HMB).own.1 fun j hj => ?_⟩
                        rw [handRow, unhide HY2]
                        match j, hj with
                        | 0, _ => rfl
                        | 1, _ => rfl
                        | 2, _ => rfl
                    · have hpl : r = x.hands.length := by omega
                      subst hpl
                      rename World => wc
                      have hk2 : ¬ ((x.hands.length : Int) < (x.hands.length : Int)) := by omega
                      obtain ⟨tt, hb3⟩ := (unhide HMB).blk
                      have HGwc := hide hb3
                      have k2 : wc.cell? ⟨wf.heap.size, 5, none⟩ = some (.slice gv x.vars.length capv) := hcell hfw 5
                      have HFwc := hide hfw
                      have HBwc := hide hbw
                      have hswc : wb.heap.size ≤ wc.heap.size := hm.ext.size
                      clear hb3 hm hfl HY hbw hfw
                      go_wp2_with fail
                      clear k1 k2 hk2
                      go_loopg [14] x.vars.length (fun gg i wr => ∃ k : Nat, k ≤ x.vars.length ∧ gg = x.vars.length - k ∧ i = .int .i64 k ∧ Hid (∃ vx xx, Mk wc wr (wf.heap.size + 1) #[.string x.name, .int .i64 x.params, .int .i64 x.slots, va, vb, .slice none 0 0] 5 94 5 vx k xx ∧ Flat xx k 5 (varRow x.vars)))
                      case atStart => exact ⟨0, Nat.zero_le _, rfl, rfl, .slice none 0 0, [], Mk.start (unhide HGwc) (by simp), Flat.nil _ _⟩
                      case round =>
                        obtain ⟨s, hs, rfl, rfl, HY⟩ := hrel
                        obtain ⟨vv, xv, hm, hfl⟩ := unhide HY
                        have HMC := hide hm
                        have HFLC := hide hfl
                        have hfw : wr.heap[wf.heap.size]? = some (.cells #[.string x.name, .int .i64 x.params, .int .i64 x.slots, .slice ga x.code.length capa, .slice gh x.hands.length caph, .slice gv x.vars.length capv] 51 (0, 0)) := (hm.ext.block _ (hlt (unhide HFwc)) (by omega)).trans (unhide HFwc)
                        have k1 : wr.cell? ⟨wf.heap.size, 5, none⟩ = some (.slice gv x.vars.length capv) := hcell hfw 5
                        have hbw : Below w.heap.size w wr := (unhide HBwc).trans (hm.ext.below (unhide HBwc).size (by omega))
                        by_cases hlp : s < x.vars.length
                        · have hy : x.vars[s]? = some (x.vars[s]'hlp) := List.getElem?_eq_getElem _
                          generalize (x.vars[s]'hlp) = y at *
                          obtain ⟨qb, qo, rfl, j0, j1, j2, j3, j4⟩ := VarsAt.at (unhide HRV) hy hlp
                          have l0 := cellk hbw j0 (cell_lt j0)
                          have l1 := cellk hbw j1 (cell_lt j1)
                          have l2 := cellk hbw j2 (cell_lt j2)
                          have l3 := cellk hbw j3 (cell_lt j3)
                          have l4 := cellk hbw j4 (cell_lt j4)
                          have hk2 : (s : Int) < (x.vars.length : Int) := by omega
                          have hwr : wc.heap.size ≤ wr.heap.size := hm.ext.size
                          have HY2 := hide hy
                          have HO := hide (((unhide HMC).alloc (.cells #[.string y.name, .int .i64 y.slot, .int .i64 y.fr, .int .i64 y.to, .bool y.boxed] 93)).alloc (.cells #[.string y.name, .int .i64 y.slot, .int .i64 y.fr, .int .i64 y.to, .bool y.boxed] 94)).own
                          have d0 := (unhide HMC).cell
                          have d1 := cell_al (unhide HMC).cell
                          have d2 : ∀ o p, ((wr.alloc o).alloc p).cell? ⟨wf.heap.size + 1, 5, none⟩ = some vv := fun o p => cell_al (d1 o) p
                          clear hy j0 j1 j2 j3 j4 hbw hm hfl HY hfw
                          go_wp2_with (at_builtin; refine wpList_append_lies _ rfl _ _ _ rfl wc.heap.size 94 i4 (.agg #[.string ByteArray.empty, .int .i64 0, .int .i64 0, .int .i64 0, .bool false]) 5 48 Tryd.underlying79 hi4 ht0 ht1 ht2 rfl (by decide) vv s xv rfl (unhide HO) ⟨wr.heap.size + 1, 0, none⟩ 1 1 [.string y.name, .int .i64 y.slot, .int .i64 y.fr, .int .i64 y.to, .bool y.boxed] rfl rfl (news_at ?c1 _ _) ?c2 (by decide) ?c3 ?c4 ?c5 (wr.heap.size + 1 + 1) ?c6 ?_)
                          case c1 => simp
                          case c2 => exact one_var _ _ _ _ _
                          case c3 => unfold maxLen; omega
                          case c4 => omega
                          case c5 => simp; omega
                          case c6 => simp
                          intro g cap w3 hown hgrow hat hlt3
                          obtain ⟨e6, f6, hc6, HMK⟩ := (unhide HMC).grow rfl rfl rfl rfl hown hgrow hat
                          clear hown hgrow hat hlt3 hc6 d0 d1 d2
                          go_wp2_with fail
                          go_roundg (x.vars.length - (s + 1))
                          case measure => omega
                          case rel =>
                            refine ⟨s + 1, by omega, rfl, by go_num, _, _, unhide HMK, (unhide HFLC).snoc (unhide HMC).own.1 fun j hj => ?_⟩
                            rw [varRow, unhide HY2]
                            match j, hj with
                            | 0, _ => rfl
                            | 1, _ => rfl
                            | 2, _ => rfl
                            | 3, _ => rfl
                            | 4, _ => rfl
                        · have hpl : s = x.vars.length := by omega
                          subst hpl
                          rename World => wd
                          have hk2 : ¬ ((x.vars.length : Int) < (x.vars.length : Int)) := by omega
                          obtain ⟨gA, cA, rfl, _⟩ := rows_of_owns (unhide HMA).own (unhide HFLA)
                          obtain ⟨gB, cB, rfl, _⟩ := rows_of_owns (unhide HMB).own (unhide HFLB)
                          obtain ⟨gV, cV, rfl, _⟩ := rows_of_owns (unhide HMC).own (unhide HFLC)
                          obtain ⟨tt, hb3⟩ := (unhide HMC).blk
                          have hg : wd.heap[wf.heap.size + 1]? = some (.cells #[.string x.name, .int .i64 x.params, .int .i64 x.slots, .slice gA x.code.length cA, .slice gB x.hands.length cB, .slice gV x.vars.length cV] tt (0, 0)) := hb3
                          have c0 : wd.cell? ⟨wf.heap.size + 1, 0, none⟩ = some (.string x.name) := hcell hg 0
                          have c1 : wd.cell? ⟨wf.heap.size + 1, 1, none⟩ = some (.int .i64 x.params) := hcell hg 1
                          have c2 : wd.cell? ⟨wf.heap.size + 1, 2, none⟩ = some (.int .i64 x.slots) := hcell hg 2
                          have c3 : wd.cell? ⟨wf.heap.size + 1, 3, none⟩ = some (.slice gA x.code.length cA) := hcell hg 3
                          have c4 : wd.cell? ⟨wf.heap.size + 1, 4, none⟩ = some (.slice gB x.hands.length cB) := hcell hg 4
                          have c5 : wd.cell? ⟨wf.heap.size + 1, 5, none⟩ = some (.slice gV x.vars.length cV) := hcell hg 5
                          have hgd : wf.heap.size + 1 < wd.heap.size := hlt hg
                          have hext : Below wf.heap.size wf wd := (unhide HBF).trans ((((unhide HMA).ext.trans (unhide HMB).ext).trans (unhide HMC).ext).below (by omega) (by omega))
                          have hm3 := (unhide HM3).below hext
                          have HM4 := hide hm3
                          have HFS4 := hide ((unhide HFS).below hext)
                          have hi1' := (unhide HM3).lt
                          have hi2' := (unhide HM3).ext.size
                          have hown3 := (unhide HM3).own_lt
                          have HNW := hide (show FnOwn wd (noW w.heap.size v3) (fnRow x (.slice gA x.code.length cA) (.slice gB x.hands.length cB) (.slice gV x.vars.length cV)) x from FnOwn.of (B := wa.heap.size) ((SlOwn.of (unhide HMA) (unhide HFLA) na (Nat.le_refl _)).ext ((unhide HMB).ext.trans (unhide HMC).ext) hsa) ((SlOwn.of (unhide HMB) (unhide HFLB) nh hswb).ext (unhide HMC).ext hsa) (SlOwn.of (unhide HMC) (unhide HFLC) nv (Nat.le_trans hswb hswc)) (fun j hj => by
                            rcases hj with q | q
                            · omega
                            · have := hown3 j q
                              omega))
                          have d0 := hm3.cell
                          have d1 := cell_al hm3.cell
                          have hnO : v3.ownBlock ≠ some (wf.heap.size + 1) := fun e => by have := hown3 _ e; omega
                          have HO := hide (hm3.alloc (.cells #[.string x.name, .int .i64 x.params, .int .i64 x.slots, .slice gA x.code.length cA, .slice gB x.hands.length cB, .slice gV x.vars.length cV] 81))
                          have HG := hide hg
                          clear hb3 hm hfl HY hbw hfw hg hm3 hext hown3
                          go_wp2_with fail
                          clear k1
                          refine wp_region_held_drew (S := (fun w' => w'.cell? ⟨wf.heap.size + 1, 0, none⟩ = some (.string x.name) ∧ w'.cell? ⟨wf.heap.size + 1, 1, none⟩ = some (.int .i64 x.params) ∧ w'.cell? ⟨wf.heap.size + 1, 2, none⟩ = some (.int .i64 x.slots) ∧ w'.cell? ⟨wf.heap.size + 1, 3, none⟩ = some (.slice gA x.code.length cA) ∧ w'.cell? ⟨wf.heap.size + 1, 4, none⟩ = some (.slice gB x.hands.length cB) ∧ w'.cell? ⟨wf.heap.size + 1, 5, none⟩ = some (.slice gV x.vars.length cV))) (by kernel_rfl) (by go_keep) (fun hHeld => ?_)
                          refine wpAnyH_take (i := 0) (oi := { dst := some 192, op := _, type := _, pos := _, after := _, guard := _ }) (v := ?_) rfl (by kernel_rfl) (by kernel_rfl) (by kernel_rfl) (fun _ _ _ h => h) (Or.inl ⟨by rfl, ?_⟩) (by assumption) ?_
                          case refine_2 =>
                            intro w hSw
                            try dsimp only at hSw
                            go_simp
                            try with_reducible rfl
                          simp only [Act.put, List.setIfInBounds_toArray, List.set_cons_zero, List.set_cons_succ]
                          refine wpAnyH_take (i := 1) (oi := { dst := some 193, op := _, type := _, pos := _, after := _, guard := _ }) (v := ?_) rfl (by kernel_rfl) (by kernel_rfl) (by kernel_rfl) (fun _ _ _ h => h) (Or.inl ⟨by rfl, ?_⟩) (by assumption) ?_
                          case refine_2 =>
                            intro w hSw
                            try dsimp only at hSw
                            go_simp
                            try with_reducible rfl
                          simp only [Act.put, List.setIfInBounds_toArray, List.set_cons_zero, List.set_cons_succ]
                          refine wpAnyH_take (i := 2) (oi := { dst := some 194, op := _, type := _, pos := _, after := _, guard := _ }) (v := ?_) rfl (by kernel_rfl) (by kernel_rfl) (by kernel_rfl) (fun _ _ _ h => h) (Or.inl ⟨by rfl, ?_⟩) (by assumption) ?_
                          case refine_2 =>
                            intro w hSw
                            try dsimp only at hSw
                            go_simp
                            try with_reducible rfl
                          simp only [Act.put, List.setIfInBounds_toArray, List.set_cons_zero, List.set_cons_succ]
                          refine wpAnyH_take (i := 3) (oi := { dst := some 195, op := _, type := _, pos := _, after := _, guard := _ }) (v := ?_) rfl (by kernel_rfl) (by kernel_rfl) (by kernel_rfl) (fun _ _ _ h => h) (Or.inl ⟨by rfl, ?_⟩) (by assumption) ?_
                          case refine_2 =>
                            intro w hSw
                            try dsimp only at hSw
                            go_simp
                            try with_reducible rfl
                          simp only [Act.put, List.setIfInBounds_toArray, List.set_cons_zero, List.set_cons_succ]
                          refine wpAnyH_take (i := 5) (oi := { dst := some 197, op := _, type := _, pos := _, after := _, guard := _ }) (v := ?_) rfl (by kernel_rfl) (by kernel_rfl) (by kernel_rfl) (fun _ _ _ h => h) (Or.inl ⟨by rfl, ?_⟩) (by assumption) ?_
                          case refine_2 =>
                            intro w hSw
                            try dsimp only at hSw
                            go_simp
                            try with_reducible rfl
                          simp only [Act.put, List.setIfInBounds_toArray, List.set_cons_zero, List.set_cons_succ]
                          refine wpAnyH_ready (rs := [4, 6]) (by kernel_rfl) (by simp) ?_
                          refine AllReadyH.cons (o := { dst := some 196, op := _, type := _, pos := _, after := _, guard := _ }) rfl (fun K hK => ?_) ?_
                          · go_simp
                            refine hK.out _ _ (by assumption) (fun hHeld4 => ?_)
                            clear hK K
                            refine wpAnyH_ready (rs := [6]) (by kernel_rfl) (by simp) ?_
                            refine AllReadyH.cons (o := { dst := some 198, op := _, type := _, pos := _, after := _, guard := _ }) rfl (fun K hK => ?_) AllReadyH.nil
                            go_simp
                            refine hK.out _ _ (by go_keep) (fun hHeld6 => ?_)
                            clear hK K
                            refine wpAnyH_ready (rs := [7]) (by kernel_rfl) (by simp) ?_
                            refine AllReadyH.cons (o := { dst := some 199, op := _, type := _, pos := _, after := _, guard := _ }) rfl (fun K hK => ?_) AllReadyH.nil
                            refine step_append_lies _ (by rfl) _ _ _ (by rfl) w2.heap.size 81 i5 (.agg #[.string ByteArray.empty, .int .i64 0, .int .i64 0, .slice none 0 0, .slice none 0 0, .slice none 0 0]) 6 104 Tryd.underlying71 hi5 hf0 hf1 hf2 rfl (by decide) v3 k x3 (by rfl) (unhide HO).own ⟨wd.heap.size, 0, none⟩ 1 1 [.string x.name, .int .i64 x.params, .int .i64 x.slots, .slice gA x.code.length cA, .slice gB x.hands.length cB, .slice gV x.vars.length cV] (by rfl) rfl (news_at (by simp) _ _) (one_func _ _ _ _ _ _ _ _ _ _ _ _) (by decide) (by unfold maxLen; omega) (by omega) (by have := (unhide HM4).ext.size; simp; omega) (wd.heap.size + 1) (by simp) ?_
                            intro g cap w3 hown hgrow hat hlt3
                            obtain ⟨e6, f6, hc6, HMK⟩ := (unhide HM4).grow1 (by rfl) (by rfl) (by rfl) (by rfl) hown hgrow hat
                            have HFN : ∀ u, Hid (Fns (w3.setCell ⟨w.heap.size, 0, none⟩ u) w.heap.size (.slice (some ⟨g, 0, none⟩) (k + 1) cap) (fun i => if i = k then fnRow x (.slice gA x.code.length cA) (.slice gB x.hands.length cB) (.slice gV x.vars.length cV) else R i) m.funcs (k + 1)) := fun u => Fns.snoc (unhide HFS4) (unhide HX) (unhide HNW) (Nat.le_trans (by simp) hgrow.size) hc6 hat rfl
                            have s3 : w3.heap[wf.heap.size + 1]? = some (.cells #[.string x.name, .int .i64 x.params, .int .i64 x.slots, .slice gA x.code.length cA, .slice gB x.hands.length cB, .slice gV x.vars.length cV] tt (0, 0)) := (hc6 _ hgd hnO).trans (unhide HG)
                            have s4 : ∀ u, (w3.setCell ⟨w.heap.size, 0, none⟩ u).heap[wf.heap.size + 1]? = some (.cells #[.string x.name, .int .i64 x.params, .int .i64 x.slots, .slice gA x.code.length cA, .slice gB x.hands.length cB, .slice gV x.vars.length cV] tt (0, 0)) := fun u => (hother u (by omega)).trans s3
                            clear hown hgrow hat hlt3 hc6
                            refine hK.out _ _ ⟨hcell s3 0, hcell s3 1, hcell s3 2, hcell s3 3, hcell s3 4, hcell s3 5⟩ (fun hHeldA => ?_)
                            clear hK K
                            simp only [Act.put, List.setIfInBounds_toArray, List.set_cons_zero, List.set_cons_succ]
                            refine wpAnyH_take (i := 8) (oi := { dst := some 200, op := _, type := _, pos := _, after := _, guard := _ }) (v := ?_) rfl (by kernel_rfl) (by kernel_rfl) (by kernel_rfl) (fun _ _ _ h => h) (Or.inl ⟨by rfl, ?_⟩) (by assumption) ?_
                            case refine_2 =>
                              intro w hSw
                              try dsimp only at hSw
                              go_simp
                              try with_reducible rfl
                            simp only [Act.put, List.setIfInBounds_toArray, List.set_cons_zero, List.set_cons_succ]
                            refine wpAnyH_take (i := 9) (oi := { dst := some 201, op := _, type := _, pos := _, after := _, guard := _ }) (v := ?_) rfl (by kernel_rfl) (by kernel_rfl) (by kernel_rfl) (fun _ _ _ h => h) (Or.inl ⟨by rfl, ?_⟩) (by assumption) ?_
                            case refine_2 =>
                              intro w hSw
                              try dsimp only at hSw
                              go_simp
                              try with_reducible rfl
                            simp only [Act.put, List.setIfInBounds_toArray, List.set_cons_zero, List.set_cons_succ]
                            refine wpAnyH_ready (rs := [10]) (by kernel_rfl) (by simp) ?_
                            refine AllReadyH.cons (o := { dst := none, op := _, type := _, pos := _, after := _, guard := _ }) rfl (fun K hK => ?_) AllReadyH.nil
                            go_simp
                            refine hK.out _ _ ⟨hcell (s4 _) 0, hcell (s4 _) 1, hcell (s4 _) 2, hcell (s4 _) 3, hcell (s4 _) 4, hcell (s4 _) 5⟩ (fun hHeldS => ?_)
                            clear hK K
                            refine wpAnyH_done (by kernel_rfl) ?_ _
                            go_wp2_with fail
                            go_roundg (m.funcs.length - (k + 1))
                            case measure => omega
                            case rel =>
                              refine ⟨k + 1, by omega, rfl, by go_num, _, _, _, unhide HMK, ?_, unhide (HFN _)⟩
                              refine Flat.snoc ((unhide HFL3).turn fun i hi => if_neg (Nat.ne_of_lt hi)) (unhide HM3).own.1 fun j hj => ?_
                              rw [if_pos rfl]
                              match j, hj with
                              | 0, _ => rfl
                              | 1, _ => rfl
                              | 2, _ => rfl
                              | 3, _ => rfl
                              | 4, _ => rfl
                              | 5, _ => rfl
                          refine AllReadyH.cons (o := { dst := some 198, op := _, type := _, pos := _, after := _, guard := _ }) rfl (fun K hK => ?_) AllReadyH.nil
                          go_simp
                          refine hK.out _ _ (by go_keep) (fun hHeld6 => ?_)
                          clear hK K
                          refine wpAnyH_ready (rs := [4]) (by kernel_rfl) (by simp) ?_
                          refine AllReadyH.cons (o := { dst := some 196, op := _, type := _, pos := _, after := _, guard := _ }) rfl (fun K hK => ?_) AllReadyH.nil
                          go_simp
                          refine hK.out _ _ (by assumption) (fun hHeld4 => ?_)
                          clear hK K
                          refine wpAnyH_ready (rs := [7]) (by kernel_rfl) (by simp) ?_
                          refine AllReadyH.cons (o := { dst := some 199, op := _, type := _, pos := _, after := _, guard := _ }) rfl (fun K hK => ?_) AllReadyH.nil
                          refine step_append_lies _ (by rfl) _ _ _ (by rfl) w2.heap.size 81 i5 (.agg #[.string ByteArray.empty, .int .i64 0, .int .i64 0, .slice none 0 0, .slice none 0 0, .slice none 0 0]) 6 104 Tryd.underlying71 hi5 hf0 hf1 hf2 rfl (by decide) v3 k x3 (by rfl) (unhide HO).own ⟨wd.heap.size, 0, none⟩ 1 1 [.string x.name, .int .i64 x.params, .int .i64 x.slots, .slice gA x.code.length cA, .slice gB x.hands.length cB, .slice gV x.vars.length cV] (by rfl) rfl (news_at (by simp) _ _) (one_func _ _ _ _ _ _ _ _ _ _ _ _) (by decide) (by unfold maxLen; omega) (by omega) (by have := (unhide HM4).ext.size; simp; omega) (wd.heap.size + 1) (by simp) ?_
                          intro g cap w3 hown hgrow hat hlt3
                          obtain ⟨e6, f6, hc6, HMK⟩ := (unhide HM4).grow1 (by rfl) (by rfl) (by rfl) (by rfl) hown hgrow hat
                          have HFN : ∀ u, Hid (Fns (w3.setCell ⟨w.heap.size, 0, none⟩ u) w.heap.size (.slice (some ⟨g, 0, none⟩) (k + 1) cap) (fun i => if i = k then fnRow x (.slice gA x.code.length cA) (.slice gB x.hands.length cB) (.slice gV x.vars.length cV) else R i) m.funcs (k + 1)) := fun u => Fns.snoc (unhide HFS4) (unhide HX) (unhide HNW) (Nat.le_trans (by simp) hgrow.size) hc6 hat rfl
                          have s3 : w3.heap[wf.heap.size + 1]? = some (.cells #[.string x.name, .int .i64 x.params, .int .i64 x.slots, .slice gA x.code.length cA, .slice gB x.hands.length cB, .slice gV x.vars.length cV] tt (0, 0)) := (hc6 _ hgd hnO).trans (unhide HG)
                          have s4 : ∀ u, (w3.setCell ⟨w.heap.size, 0, none⟩ u).heap[wf.heap.size + 1]? = some (.cells #[.string x.name, .int .i64 x.params, .int .i64 x.slots, .slice gA x.code.length cA, .slice gB x.hands.length cB, .slice gV x.vars.length cV] tt (0, 0)) := fun u => (hother u (by omega)).trans s3
                          clear hown hgrow hat hlt3 hc6
                          refine hK.out _ _ ⟨hcell s3 0, hcell s3 1, hcell s3 2, hcell s3 3, hcell s3 4, hcell s3 5⟩ (fun hHeldA => ?_)
                          clear hK K
                          simp only [Act.put, List.setIfInBounds_toArray, List.set_cons_zero, List.set_cons_succ]
                          refine wpAnyH_take (i := 8) (oi := { dst := some 200, op := _, type := _, pos := _, after := _, guard := _ }) (v := ?_) rfl (by kernel_rfl) (by kernel_rfl) (by kernel_rfl) (fun _ _ _ h => h) (Or.inl ⟨by rfl, ?_⟩) (by assumption) ?_
                          case refine_2 =>
                            intro w hSw
                            try dsimp only at hSw
                            go_simp
                            try with_reducible rfl
                          simp only [Act.put, List.setIfInBounds_toArray, List.set_cons_zero, List.set_cons_succ]
                          refine wpAnyH_take (i := 9) (oi := { dst := some 201, op := _, type := _, pos := _, after := _, guard := _ }) (v := ?_) rfl (by kernel_rfl) (by kernel_rfl) (by kernel_rfl) (fun _ _ _ h => h) (Or.inl ⟨by rfl, ?_⟩) (by assumption) ?_
                          case refine_2 =>
                            intro w hSw
                            try dsimp only at hSw
                            go_simp
                            try with_reducible rfl
                          simp only [Act.put, List.setIfInBounds_toArray, List.set_cons_zero, List.set_cons_succ]
                          refine wpAnyH_ready (rs := [10]) (by kernel_rfl) (by simp) ?_
                          refine AllReadyH.cons (o := { dst := none, op := _, type := _, pos := _, after := _, guard := _ }) rfl (fun K hK => ?_) AllReadyH.nil
                          go_simp
                          refine hK.out _ _ ⟨hcell (s4 _) 0, hcell (s4 _) 1, hcell (s4 _) 2, hcell (s4 _) 3, hcell (s4 _) 4, hcell (s4 _) 5⟩ (fun hHeldS => ?_)
                          clear hK K
                          refine wpAnyH_done (by kernel_rfl) ?_ _
                          go_wp2_with fail
                          go_roundg (m.funcs.length - (k + 1))
                          case measure => omega
                          case rel =>
                            refine ⟨k + 1, by omega, rfl, by go_num, _, _, _, unhide HMK, ?_, unhide (HFN _)⟩
                            refine Flat.snoc ((unhide HFL3).turn fun i hi => if_neg (Nat.ne_of_lt hi)) (unhide HM3).own.1 fun j hj => ?_
                            rw [if_pos rfl]
                            match j, hj with
                            | 0, _ => rfl
                            | 1, _ => rfl
                            | 2, _ => rfl
                            | 3, _ => rfl
                            | 4, _ => rfl
                            | 5, _ => rfl
            · have hkl : k = m.funcs.length := by omega
              subst hkl
              have hk2 : ¬ ((m.funcs.length : Int) < (m.funcs.length : Int)) := by omega
              obtain ⟨t3, hb3⟩ := (unhide HM3).blk
              have HB3 := hide hb3
              clear hb3 hm hfl hfs HY hbw
              go_wp2_with fail
              go_ret
              obtain ⟨g3, cap3, e3, hr3⟩ := rows_of_owns (unhide HM3).own (unhide HFL3)
              exact ⟨unhide HBW3, w.heap.size, rfl, _, _, _, hcell (unhide HB3) 0, hcell (unhide HB3) 1, hcell (unhide HB3) 2,
                ⟨R, ⟨g3, cap3, e3, nf, hr3⟩, fun i f hi => ((unhide HFS) i f (List.getElem?_eq_some_iff.mp hi).1 hi).1⟩,
                (((SlOwn.of (unhide HM) (unhide HFL) nc (Nat.le_refl _)).ext (unhide HM2).ext (unhide HM).lt).ext (unhide HM3).ext (unhide HM).lt).1,
                ⟨RK, ((SlOwn.of (unhide HM2) (unhide HFL2) nk (Nat.le_refl _)).ext (unhide HM3).ext (unhide HM2).lt).1, fun i c hi => ((unhide HRRK) i c hi).keep (unhide HBW3)⟩⟩
end Go.Proofs.YtcbgcjkcfolcoaaDoor
