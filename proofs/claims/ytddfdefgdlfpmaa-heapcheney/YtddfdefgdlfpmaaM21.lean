/-
  HeapCheney, the law.
-/
import Derived.Test.YtddfdefgdlfpmaaM20
namespace Go.Proofs.Ytddfdefgdlfpmaa
open Go.RowKit Go.Maps

set_option maxRecDepth 100000 in
set_option maxHeartbeats 16000000 in
theorem cheney_any {w : World} {vs vk vl : Value} {sizes links l : List Int} (hs : NumsAt w vs sizes) (hk : NumsAt w vk links) (hl : NumsAt w vl l) (h64 : ∀ x ∈ links, I64 x) :
    Calls Try.prog 3 #[vs, vk, vl] w fun e w' => ChPost w e w' := by
  obtain ⟨gs, cs, rfl, hs⟩ := hs
  obtain ⟨gk, ck, rfl, hk⟩ := hk
  obtain ⟨gl, cl, rfl, hl⟩ := hl
  by_cases h0 : sizes.length = 0 ∨ 30 < sizes.length ∨ 90 < links.length ∨ 12 < l.length
  · exact cheney_none h0
  have h1 : sizes.length ≠ 0 := by omega
  have d1 : ((sizes.length : Int) == 0) = false := by simp; intro e; simp [e] at h1
  have d2 : decide (30 < (sizes.length : Int)) = false := by simp; omega
  have d3 : decide (90 < (links.length : Int)) = false := by simp; omega
  have d4 : decide (12 < (l.length : Int)) = false := by simp; omega
  have n1 : ¬ (30 : Int) < (sizes.length : Int) := by omega
  have n2 : ¬ (90 : Int) < (links.length : Int) := by omega
  have n3 : ¬ (12 : Int) < (l.length : Int) := by omega
  have HS := hide hs
  have HK := hide hk
  have HL := hide hl
  have H64 := hide h64
  clear hs hk hl h64
  go_enter Try.func3, Try.ntmps3
  go_wp2_with fail
  refine (heapNew_any 400 2000 w).mono ?_
  rintro e w1 ⟨hb1, ⟨q1, _⟩ | ⟨_, hp, mb, rfl, hp0, hm0, hne, hm, hh⟩⟩
  · exact absurd q1 (by decide)
  have HST := hide (show St w w1 hp mb (newP 400 2000) (.map []) 0 (.slice none 0 0) (.slice none 0 0) (.slice none 0 0) 0 0 from ⟨HpG.new (n := 400) (o := 2000) hh hm hb1.size, Ph.new, World.ownsRow_nil _ _ _ _, fun j hj => (by cases hj), hb1, hp0, hm0, Nat.le_refl _⟩)
  have q0 := neqNilG
  clear hb1 hm hh hne hp0 hm0
  go_wp2_with fail
  refine (moved_true w1).mono ?_
  rintro e w2 ⟨rfl, hb2⟩
  have HST2 := hide ((unhide HST).keep hb2)
  clear hb2 HST
  go_wp2_with fail
  obtain ⟨N, hN⟩ : ∃ N, sizes.length = N := ⟨_, rfl⟩
  have hN0 : 0 < N := by omega
  have hN1 : N ≤ 30 := by omega
  have HNN := hide hN
  have HLL := hide (show links.length ≤ 90 ∧ l.length ≤ 12 by omega)
  obtain ⟨i0, hi0, hz0, hz1, hz2⟩ := info_parts infoVal
  rw [hN]
  clear d1 d2 d3 d4 n1 n2 n3 h0 h1 hN
  go_loopg [9, 10] N (fun gg av iv wr => ∃ (i : Nat), gg = N - i ∧ iv = .int .i64 i ∧ i ≤ N ∧ Hid (∃ P D n vyo vyf, St w wr hp mb P D n vyo vyf av i i))
  case atStart => exact ⟨0, rfl, rfl, Nat.zero_le _, _, _, _, _, _, unhide HST2⟩
  case round =>
    obtain ⟨i, rfl, rfl, hil, HI⟩ := hrel
    by_cases hlt2 : i < N
    · have hlt3 : (i : Int) < (N : Int) := by omega
      obtain ⟨P, D, n, vyo, vyf, hst⟩ := unhide HI
      obtain ⟨ga, ca, rfl⟩ := owns_form hst.all
      obtain ⟨x, hx⟩ : ∃ x, sizes[i]? = some x := ⟨_, List.getElem?_eq_getElem (by rw [unhide HNN]; exact hlt2)⟩
      obtain ⟨b, o, rfl, c1⟩ := nums_cell (unhide HS) hst.bel hx
      have HST := hide hst
      clear hst hx HI
      go_wp2_with fail
      refine (pick_nat (n := 8) (by decide) (by decide)).mono ?_
      rintro e w3 ⟨p, hp8, rfl, rfl⟩
      go_wp2_with fail
      refine ((unhide HST).allocs (by omega) (i : Int) hp8).mono ?_
      rintro e w4 ⟨rfl, P4, D4, n4, vo4, vf4, hst4⟩
      have HST4 := hide hst4
      have HST5 := hide (hst4.keep ((Below.refl _ _).alloc (Nat.le_refl _) (.cells #[.int .i64 4, .int .i64 (1 + 2 * (i : Int)), .string ⟨#[]⟩] 34)))
      have HNW := hide (news_ref w4 (1 + 2 * (i : Int)))
      clear hst4 c1 HST HST4
      go_wp2_with (at_builtin; refine wpList_append_lies _ rfl _ _ _ rfl w.heap.size 34 i0 (.agg #[.int .i64 0, .int .i64 0, .string ByteArray.empty]) 3 32 Try.underlying29 hi0 hz0 hz1 hz2 rfl (by decide) _ i (allRow i) rfl (unhide HST5).all ⟨w4.heap.size, 0, none⟩ 1 1 (vCells (refV i)) rfl rfl (unhide HNW) (one_ref _) (by decide) ?c3 ?c4 ?c5 _ rfl ?_)
      case c3 => unfold maxLen; omega
      case c4 => omega
      case c5 => exact (unhide HST5).bel.size
      intro g5 cap5 w5 hrow5 hg5 hat5 hlt5
      have HST6 := hide ((unhide HST5).more hrow5 hg5 (hat5.imp id (fun q => by rw [q]; simp)))
      clear hrow5 hg5 hat5 hlt5 HST5 HNW
      go_wp2_with fail
      go_roundg (N - (i + 1))
      case measure => omega
      case rel => exact ⟨i + 1, rfl, by go_num, by omega, _, _, _, _, _, unhide HST6⟩
    · obtain rfl : i = N := by omega
      have hlt3 : decide ((i : Int) < (i : Int)) = false := by simp
      obtain ⟨P, D, n, vyo, vyf, hst⟩ := unhide HI
      obtain ⟨ga, ca, rfl⟩ := owns_form hst.all
      have HST := hide (show ∃ P D n vyo vyf, St w wr hp mb P D n vyo vyf (.slice ga i ca) i i from ⟨_, _, _, _, _, hst⟩)
      clear hst HI
      go_wp2_with fail
      go_loopg [13] links.length (fun gg iv wr => ∃ (j : Nat), gg = links.length - j ∧ iv = .int .i64 j ∧ j ≤ 92 ∧ Hid (∃ P D n vyo vyf, St w wr hp mb P D n vyo vyf (.slice ga i ca) i i))
      case atStart => exact ⟨0, rfl, rfl, by omega, unhide HST⟩
      case round =>
        obtain ⟨j, rfl, rfl, hj92, HI⟩ := hrel
        have hwr2 : IntKind.i64.wrap ((j : Int) + 2) = (j : Int) + 2 := wrap_id (by omega) (by omega)
        by_cases hlt4 : j + 2 < links.length
        · have hlt5 : (j : Int) + 2 < (links.length : Int) := by omega
          obtain ⟨P, D, n, vyo, vyf, hst⟩ := unhide HI
          obtain ⟨x0, hx0⟩ : ∃ x, links[j]? = some x := ⟨_, List.getElem?_eq_getElem (by omega)⟩
          obtain ⟨x1, hx1⟩ : ∃ x, links[j + 1]? = some x := ⟨_, List.getElem?_eq_getElem (by omega)⟩
          obtain ⟨x2, hx2⟩ : ∃ x, links[j + 2]? = some x := ⟨_, List.getElem?_eq_getElem (by omega)⟩
          obtain ⟨b, o, rfl, c0⟩ := nums_cell (unhide HK) hst.bel hx0
          obtain ⟨b', o', e', c1⟩ := nums_cell (unhide HK) hst.bel hx1
          cases e'
          obtain ⟨b', o', e', c2⟩ := nums_cell (unhide HK) hst.bel hx2
          cases e'
          have hbw : b < w.heap.size := by
            obtain ⟨_, _, e0, cw⟩ := unhide HK j x0 hx0
            cases e0
            exact cell_lt (a := ⟨b, o + j, none⟩) cw
          have HX2 := hide (unhide H64 x2 (List.mem_of_getElem? hx2))
          have HST := hide hst
          clear hst HI hx0 hx1 hx2
          go_wp2_with fail
          refine (pick_nat (n := i) (by omega) (by omega)).mono ?_
          rintro e w3 ⟨p, hpi, rfl, rfl⟩
          obtain ⟨g, cap, ea, k0, k1, k2⟩ := (unhide HST).ref hpi
          cases ea
          have hpi2 : (p : Int) < (i : Int) := by omega
          have lb1 : b < w3.heap.size := cell_lt c0
          have lb2 : b ≠ w3.heap.size := Nat.ne_of_lt lb1
          have lb3 : b ≠ w3.heap.size + 1 := by omega
          have lg1 : g < w3.heap.size := cell_lt k0
          have lg2 : g ≠ w3.heap.size := Nat.ne_of_lt lg1
          have lg3 : g ≠ w3.heap.size + 1 := by omega
          obtain ⟨x, hxx, hob⟩ := (unhide HST).ph.obj hpi
          have HOB := hide hob
          have HXX := hide hxx
          have HA := hide (objA_i64 (unhide HST).hpg.small hob)
          have HXL : Hid (x.fs.length ≤ 1000000) := by
            have q1 := begin_le hxx
            have q2 := (unhide HST).ph.fs
            show x.fs.length ≤ 1000000
            omega
          have HNF := hide (show vyf.ownBlock ≠ some w3.heap.size from fun e => Nat.lt_irrefl _ (owns_ty (unhide HST).hpg.at'.yf e).lt)
          have HNV := hide (show vyf.ownBlock ≠ some (w3.heap.size + 1) from fun e => by have := (owns_ty (unhide HST).hpg.at'.yf e).lt; omega)
          have HNB := hide (show vyf.ownBlock ≠ some b from own_not (unhide HST).hpg.at'.yf hbw)
          have HBW := hide ((Below.refl w3.heap.size w3).alloc (Nat.le_refl _) (.cells #[.int .i64 4, .int .i64 (1 + 2 * (p : Int)), .string ⟨#[]⟩] 34))
          have HLL2 := unhide HLL
          clear hxx hob
          by_cases hm : Int.tmod x2 3 = 0
          · have dm : (Int.tmod x2 3 == 0) = true := by simpa using hm
            have HFIT := hide (show Fit i ⟨2, x2, ⟨#[]⟩⟩ from ⟨unhide HX2, fun e => by cases e⟩)
            go_wp2_with fail
            have hbb := (unhide HBW).alloc (by simp) (.cells #[.int .i64 2, .int .i64 x2, .string ⟨#[]⟩] 34)
            have HSTW := hide ((unhide HST).keep hbb)
            have hF := (Below.heap_alloc (w3.alloc (.cells #[.int .i64 4, .int .i64 (1 + 2 * (p : Int)), .string ⟨#[]⟩] 34)) (.cells #[.int .i64 2, .int .i64 x2, .string ⟨#[]⟩] 34) w3.heap.size (by simp)).trans (hnew w3 _)
            have hV : ((w3.alloc (.cells #[.int .i64 4, .int .i64 (1 + 2 * (p : Int)), .string ⟨#[]⟩] 34)).alloc (.cells #[.int .i64 2, .int .i64 x2, .string ⟨#[]⟩] 34)).heap[w3.heap.size + 1]? = _ := hnewAt _ _ (by simp)
            have f1 := hcell hF 1
            have v0 := hcell hV 0
            have v1 := hcell hV 1
            have v2 := hcell hV 2
            have cl1 := cellk hbb c1 (cell_lt (a := ⟨b, o + (j + 1), none⟩) c1)
            simp only [List.getElem?_toArray, List.getElem?_cons_zero, List.getElem?_cons_succ] at f1 v0 v1 v2
            clear hbb hF hV k0 k1 k2 c0 c1 c2 HST HBW
            generalize (w3.alloc (.cells #[.int .i64 4, .int .i64 (1 + 2 * (p : Int)), .string ⟨#[]⟩] 34)).alloc (.cells #[.int .i64 2, .int .i64 x2, .string ⟨#[]⟩] 34) = W at *
            refine (size_at (unhide HSTW).hpg.at' (unhide HSTW).hpg.small (unhide HSTW).hpg.few (unhide HA) (unhide HOB)).mono ?_
            rintro e W2 ⟨rfl, hb2⟩
            have HSTW2 := hide ((unhide HSTW).keep hb2)
            have y1 := cellk hb2 f1 (cell_lt f1)
            have y2 := cellk hb2 cl1 (cell_lt (a := ⟨b, o + (j + 1), none⟩) cl1)
            have y3 := cellk hb2 v0 (cell_lt v0)
            have y4 := cellk hb2 v1 (cell_lt v1)
            have y5 := cellk hb2 v2 (cell_lt v2)
            clear hb2 f1 cl1 v0 v1 v2 HSTW
            by_cases hk0 : x.fs.length = 0
            · have dk : decide ((0 : Int) < (x.fs.length : Int)) = false := decide_eq_false (by omega)
              go_wp2_with fail
              refine wp_region_held_drew (S := (fun w' => w'.cell? ⟨w3.heap.size, 1, none⟩ = some (.int .i64 (1 + 2 * (p : Int))) ∧ w'.cell? ⟨b, o + (j + 1), none⟩ = some (.int .i64 x1) ∧ w'.cell? ⟨w3.heap.size + 1, 0, none⟩ = some (.int .i64 2) ∧ w'.cell? ⟨w3.heap.size + 1, 1, none⟩ = some (.int .i64 x2) ∧ w'.cell? ⟨w3.heap.size + 1, 2, none⟩ = some (.string ⟨#[]⟩))) (by kernel_rfl) ⟨y1, y2, y3, y4, y5⟩ (fun hHeld => ?_)
              refine wpAnyH_take (i := 0) (oi := { dst := some 123, op := _, type := _, pos := _, after := _, guard := _ }) (v := ?_) rfl (by kernel_rfl) (by kernel_rfl) (by kernel_rfl) (fun _ _ _ h => h) (Or.inl ⟨by rfl, ?_⟩) (by assumption) ?_
              case refine_2 =>
                intro w hSw
                try dsimp only at hSw
                go_simp
                try with_reducible rfl
              simp only [Act.put, List.setIfInBounds_toArray, List.set_cons_zero, List.set_cons_succ]
              refine wpAnyH_take (i := 1) (oi := { dst := some 124, op := _, type := _, pos := _, after := _, guard := _ }) (v := ?_) rfl (by kernel_rfl) (by kernel_rfl) (by kernel_rfl) (fun _ _ _ h => h) (Or.inl ⟨by rfl, ?_⟩) (by assumption) ?_
              case refine_2 =>
                intro w hSw
                try dsimp only at hSw
                go_simp
                try with_reducible rfl
              simp only [Act.put, List.setIfInBounds_toArray, List.set_cons_zero, List.set_cons_succ]
              refine wpAnyH_take (i := 2) (oi := { dst := some 125, op := _, type := _, pos := _, after := _, guard := _ }) (v := ?_) rfl (by kernel_rfl) (by kernel_rfl) (by kernel_rfl) (fun _ _ _ h => h) (Or.inl ⟨by rfl, ?_⟩) (by assumption) ?_
              case refine_2 =>
                intro w hSw
                try dsimp only at hSw
                go_simp
                try with_reducible rfl
              simp only [Act.put, List.setIfInBounds_toArray, List.set_cons_zero, List.set_cons_succ]
              refine wpAnyH_take (i := 3) (oi := { dst := some 126, op := _, type := _, pos := _, after := _, guard := _ }) (v := undef) rfl (by kernel_rfl) (by kernel_rfl) (by kernel_rfl) (fun _ _ _ h => h) (Or.inr ⟨by rfl, rfl⟩) (by assumption) ?_
              simp only [Act.put, List.setIfInBounds_toArray, List.set_cons_zero, List.set_cons_succ]
              refine wpAnyH_take (i := 4) (oi := { dst := some 127, op := _, type := _, pos := _, after := _, guard := _ }) (v := undef) rfl (by kernel_rfl) (by kernel_rfl) (by kernel_rfl) (fun _ _ _ h => h) (Or.inr ⟨by rfl, rfl⟩) (by assumption) ?_
              simp only [Act.put, List.setIfInBounds_toArray, List.set_cons_zero, List.set_cons_succ]
              refine wpAnyH_take (i := 5) (oi := { dst := some 128, op := _, type := _, pos := _, after := _, guard := _ }) (v := undef) rfl (by kernel_rfl) (by kernel_rfl) (by kernel_rfl) (fun _ _ _ h => h) (Or.inr ⟨by rfl, rfl⟩) (by assumption) ?_
              simp only [Act.put, List.setIfInBounds_toArray, List.set_cons_zero, List.set_cons_succ]
              refine wpAnyH_take (i := 6) (oi := { dst := some 129, op := _, type := _, pos := _, after := _, guard := _ }) (v := undef) rfl (by kernel_rfl) (by kernel_rfl) (by kernel_rfl) (fun _ _ _ h => h) (Or.inr ⟨by rfl, rfl⟩) (by assumption) ?_
              simp only [Act.put, List.setIfInBounds_toArray, List.set_cons_zero, List.set_cons_succ]
              refine wpAnyH_take (i := 7) (oi := { dst := some 130, op := _, type := _, pos := _, after := _, guard := _ }) (v := undef) rfl (by kernel_rfl) (by kernel_rfl) (by kernel_rfl) (fun _ _ _ h => h) (Or.inr ⟨by rfl, rfl⟩) (by assumption) ?_
              simp only [Act.put, List.setIfInBounds_toArray, List.set_cons_zero, List.set_cons_succ]
              refine wpAnyH_take (i := 8) (oi := { dst := some 131, op := _, type := _, pos := _, after := _, guard := _ }) (v := undef) rfl (by kernel_rfl) (by kernel_rfl) (by kernel_rfl) (fun _ _ _ h => h) (Or.inr ⟨by rfl, rfl⟩) (by assumption) ?_
              simp only [Act.put, List.setIfInBounds_toArray, List.set_cons_zero, List.set_cons_succ]
              refine wpAnyH_take (i := 9) (oi := { dst := some 132, op := _, type := _, pos := _, after := _, guard := _ }) (v := undef) rfl (by kernel_rfl) (by kernel_rfl) (by kernel_rfl) (fun _ _ _ h => h) (Or.inr ⟨by rfl, rfl⟩) (by assumption) ?_
              simp only [Act.put, List.setIfInBounds_toArray, List.set_cons_zero, List.set_cons_succ]
              refine wpAnyH_take (i := 10) (oi := { dst := some 133, op := _, type := _, pos := _, after := _, guard := _ }) (v := undef) rfl (by kernel_rfl) (by kernel_rfl) (by kernel_rfl) (fun _ _ _ h => h) (Or.inr ⟨by rfl, rfl⟩) (by assumption) ?_
              simp only [Act.put, List.setIfInBounds_toArray, List.set_cons_zero, List.set_cons_succ]
              refine wpAnyH_take (i := 11) (oi := { dst := some 134, op := _, type := _, pos := _, after := _, guard := _ }) (v := undef) rfl (by kernel_rfl) (by kernel_rfl) (by kernel_rfl) (fun _ _ _ h => h) (Or.inr ⟨by rfl, rfl⟩) (by assumption) ?_
              simp only [Act.put, List.setIfInBounds_toArray, List.set_cons_zero, List.set_cons_succ]
              refine wpAnyH_take (i := 12) (oi := { dst := some 135, op := _, type := _, pos := _, after := _, guard := _ }) (v := undef) rfl (by kernel_rfl) (by kernel_rfl) (by kernel_rfl) (fun _ _ _ h => h) (Or.inr ⟨by rfl, rfl⟩) (by assumption) ?_
              simp only [Act.put, List.setIfInBounds_toArray, List.set_cons_zero, List.set_cons_succ]
              refine wpAnyH_take (i := 13) (oi := { dst := some 136, op := _, type := _, pos := _, after := _, guard := _ }) (v := undef) rfl (by kernel_rfl) (by kernel_rfl) (by kernel_rfl) (fun _ _ _ h => h) (Or.inr ⟨by rfl, rfl⟩) (by assumption) ?_
              simp only [Act.put, List.setIfInBounds_toArray, List.set_cons_zero, List.set_cons_succ]
              refine wpAnyH_take (i := 14) (oi := { dst := some 137, op := _, type := _, pos := _, after := _, guard := _ }) (v := undef) rfl (by kernel_rfl) (by kernel_rfl) (by kernel_rfl) (fun _ _ _ h => h) (Or.inr ⟨by rfl, rfl⟩) (by assumption) ?_
              simp only [Act.put, List.setIfInBounds_toArray, List.set_cons_zero, List.set_cons_succ]
              refine wpAnyH_take (i := 15) (oi := { dst := some 138, op := _, type := _, pos := _, after := _, guard := _ }) (v := undef) rfl (by kernel_rfl) (by kernel_rfl) (by kernel_rfl) (fun _ _ _ h => h) (Or.inr ⟨by rfl, rfl⟩) (by assumption) ?_
              simp only [Act.put, List.setIfInBounds_toArray, List.set_cons_zero, List.set_cons_succ]
              refine wpAnyH_take (i := 16) (oi := { dst := some 139, op := _, type := _, pos := _, after := _, guard := _ }) (v := ?_) rfl (by kernel_rfl) (by kernel_rfl) (by kernel_rfl) (fun _ _ _ h => h) (Or.inl ⟨by rfl, ?_⟩) (by assumption) ?_
              case refine_2 =>
                intro w hSw
                try dsimp only at hSw
                go_simp
                try with_reducible rfl
              simp only [Act.put, List.setIfInBounds_toArray, List.set_cons_zero, List.set_cons_succ]
              refine wpAnyH_done (by kernel_rfl) ?_ _
              go_wp2_with fail
              go_roundg (links.length - (j + 3))
              case measure => omega
              case rel => exact ⟨j + 3, rfl, by go_num, by omega, _, _, _, _, _, (unhide HSTW2).keep (Below.drew (Below.refl _ _))⟩
            · have dk : decide ((0 : Int) < (x.fs.length : Int)) = true := decide_eq_true (by omega)
              have hkp : 0 < x.fs.length := by omega
              have hkl := unhide HXL
              have hwr1 : IntKind.i64.wrap ((j : Int) + 1) = (j : Int) + 1 := wrap_id (by omega) (by omega)
              have h0j : (0 : Int) ≤ (j : Int) + 1 := by omega
              have hlt6 : (j : Int) + 1 < (links.length : Int) := by omega
              have entP : ∀ w : World, Sem.run Try.prog (callFunc 7 #[.int .i64 x1, .int .i64 (x.fs.length : Int)]) w = .ok (.enter 7 #[.int .i64 x1, .int .i64 (x.fs.length : Int)]) w := fun _ => by kernel_rfl
              have entS : ∀ (q : Nat) (w : World), Sem.run Try.prog (callFunc 9 #[.pointer (some ⟨hp, 0, none⟩), .int .i64 (1 + 2 * (p : Int)), .int .i64 (q : Int), .agg #[.int .i64 2, .int .i64 x2, .string ⟨#[]⟩]]) w = .ok (.enter 9 #[.pointer (some ⟨hp, 0, none⟩), .int .i64 (1 + 2 * (p : Int)), .int .i64 (q : Int), .agg #[.int .i64 2, .int .i64 x2, .string ⟨#[]⟩]]) w := fun _ _ => by kernel_rfl
              go_wp2_with fail
              refine wp_region_held_drew (S := (fun w' => w'.cell? ⟨w3.heap.size, 1, none⟩ = some (.int .i64 (1 + 2 * (p : Int))) ∧ w'.cell? ⟨b, o + (j + 1), none⟩ = some (.int .i64 x1) ∧ w'.cell? ⟨w3.heap.size + 1, 0, none⟩ = some (.int .i64 2) ∧ w'.cell? ⟨w3.heap.size + 1, 1, none⟩ = some (.int .i64 x2) ∧ w'.cell? ⟨w3.heap.size + 1, 2, none⟩ = some (.string ⟨#[]⟩))) (by kernel_rfl) ⟨y1, y2, y3, y4, y5⟩ (fun hHeld => ?_)
              refine wpAnyH_take (i := 0) (oi := { dst := some 123, op := _, type := _, pos := _, after := _, guard := _ }) (v := ?_) rfl (by kernel_rfl) (by kernel_rfl) (by kernel_rfl) (fun _ _ _ h => h) (Or.inl ⟨by rfl, ?_⟩) (by assumption) ?_
              case refine_2 =>
                intro w hSw
                try dsimp only at hSw
                go_simp
                try with_reducible rfl
              simp only [Act.put, List.setIfInBounds_toArray, List.set_cons_zero, List.set_cons_succ]
              refine wpAnyH_take (i := 1) (oi := { dst := some 124, op := _, type := _, pos := _, after := _, guard := _ }) (v := ?_) rfl (by kernel_rfl) (by kernel_rfl) (by kernel_rfl) (fun _ _ _ h => h) (Or.inl ⟨by rfl, ?_⟩) (by assumption) ?_
              case refine_2 =>
                intro w hSw
                try dsimp only at hSw
                go_simp
                try with_reducible rfl
              simp only [Act.put, List.setIfInBounds_toArray, List.set_cons_zero, List.set_cons_succ]
              refine wpAnyH_take (i := 2) (oi := { dst := some 125, op := _, type := _, pos := _, after := _, guard := _ }) (v := ?_) rfl (by kernel_rfl) (by kernel_rfl) (by kernel_rfl) (fun _ _ _ h => h) (Or.inl ⟨by rfl, ?_⟩) (by assumption) ?_
              case refine_2 =>
                intro w hSw
                try dsimp only at hSw
                go_simp
                try with_reducible rfl
              simp only [Act.put, List.setIfInBounds_toArray, List.set_cons_zero, List.set_cons_succ]
              refine wpAnyH_take (i := 3) (oi := { dst := some 126, op := _, type := _, pos := _, after := _, guard := _ }) (v := ?_) rfl (by kernel_rfl) (by kernel_rfl) (by kernel_rfl) (fun _ _ _ h => h) (Or.inl ⟨by rfl, ?_⟩) (by assumption) ?_
              case refine_2 =>
                intro w hSw
                try dsimp only at hSw
                go_simp
                try with_reducible rfl
              simp only [Act.put, List.setIfInBounds_toArray, List.set_cons_zero, List.set_cons_succ]
              refine wpAnyH_take (i := 4) (oi := { dst := some 127, op := _, type := _, pos := _, after := _, guard := _ }) (v := ?_) rfl (by kernel_rfl) (by kernel_rfl) (by kernel_rfl) (fun _ _ _ h => h) (Or.inl ⟨by rfl, ?_⟩) (by assumption) ?_
              case refine_2 =>
                intro w hSw
                try dsimp only at hSw
                go_simp
                try with_reducible rfl
              simp only [Act.put, List.setIfInBounds_toArray, List.set_cons_zero, List.set_cons_succ]
              refine wpAnyH_take (i := 5) (oi := { dst := some 128, op := _, type := _, pos := _, after := _, guard := _ }) (v := ?_) rfl (by kernel_rfl) (by kernel_rfl) (by kernel_rfl) (fun _ _ _ h => h) (Or.inl ⟨by rfl, ?_⟩) (by assumption) ?_
              case refine_2 =>
                intro w hSw
                try dsimp only at hSw
                go_simp
                try with_reducible rfl
              simp only [Act.put, List.setIfInBounds_toArray, List.set_cons_zero, List.set_cons_succ]
              refine wpAnyH_take (i := 6) (oi := { dst := some 129, op := _, type := _, pos := _, after := _, guard := _ }) (v := ?_) rfl (by kernel_rfl) (by kernel_rfl) (by kernel_rfl) (fun _ _ _ h => h) (Or.inl ⟨by rfl, ?_⟩) (by assumption) ?_
              case refine_2 =>
                intro w hSw
                try dsimp only at hSw
                go_simp
                try with_reducible rfl
              simp only [Act.put, List.setIfInBounds_toArray, List.set_cons_zero, List.set_cons_succ]
              refine wpAnyH_take (i := 7) (oi := { dst := some 130, op := _, type := _, pos := _, after := _, guard := _ }) (v := ?_) rfl (by kernel_rfl) (by kernel_rfl) (by kernel_rfl) (fun _ _ _ h => h) (Or.inl ⟨by rfl, ?_⟩) (by assumption) ?_
              case refine_2 =>
                intro w hSw
                try dsimp only at hSw
                go_simp
                try with_reducible rfl
              simp only [Act.put, List.setIfInBounds_toArray, List.set_cons_zero, List.set_cons_succ]
              refine wpAnyH_take (i := 8) (oi := { dst := some 131, op := _, type := _, pos := _, after := _, guard := _ }) (v := ?_) rfl (by kernel_rfl) (by kernel_rfl) (by kernel_rfl) (fun _ _ _ h => h) (Or.inl ⟨by rfl, ?_⟩) (by assumption) ?_
              case refine_2 =>
                intro w hSw
                try dsimp only at hSw
                go_simp
                try with_reducible rfl
              simp only [Act.put, List.setIfInBounds_toArray, List.set_cons_zero, List.set_cons_succ]
              refine wpAnyH_take (i := 9) (oi := { dst := some 132, op := _, type := _, pos := _, after := _, guard := _ }) (v := ?_) rfl (by kernel_rfl) (by kernel_rfl) (by kernel_rfl) (fun _ _ _ h => h) (Or.inl ⟨by rfl, ?_⟩) (by assumption) ?_
              case refine_2 =>
                intro w hSw
                try dsimp only at hSw
                go_simp
                try with_reducible rfl
              simp only [Act.put, List.setIfInBounds_toArray, List.set_cons_zero, List.set_cons_succ]
              refine wpAnyH_take (i := 10) (oi := { dst := some 133, op := _, type := _, pos := _, after := _, guard := _ }) (v := ?_) rfl (by kernel_rfl) (by kernel_rfl) (by kernel_rfl) (fun _ _ _ h => h) (Or.inl ⟨by rfl, ?_⟩) (by assumption) ?_
              case refine_2 =>
                intro w hSw
                try dsimp only at hSw
                go_simp
                try with_reducible rfl
              simp only [Act.put, List.setIfInBounds_toArray, List.set_cons_zero, List.set_cons_succ]
              refine wpAnyH_take (i := 11) (oi := { dst := some 134, op := _, type := _, pos := _, after := _, guard := _ }) (v := ?_) rfl (by kernel_rfl) (by kernel_rfl) (by kernel_rfl) (fun _ _ _ h => h) (Or.inl ⟨by rfl, ?_⟩) (by assumption) ?_
              case refine_2 =>
                intro w hSw
                try dsimp only at hSw
                go_simp
                try with_reducible rfl
              simp only [Act.put, List.setIfInBounds_toArray, List.set_cons_zero, List.set_cons_succ]
              refine wpAnyH_take (i := 13) (oi := { dst := some 136, op := _, type := _, pos := _, after := _, guard := _ }) (v := ?_) rfl (by kernel_rfl) (by kernel_rfl) (by kernel_rfl) (fun _ _ _ h => h) (Or.inl ⟨by rfl, ?_⟩) (by assumption) ?_
              case refine_2 =>
                intro w hSw
                try dsimp only at hSw
                go_simp
                try with_reducible rfl
              simp only [Act.put, List.setIfInBounds_toArray, List.set_cons_zero, List.set_cons_succ]
              refine wpAnyH_ready (rs := [12]) (by kernel_rfl) (by simp) ?_
              refine AllReadyH.cons (o := { dst := some 135, op := _, type := _, pos := _, after := _, guard := _ }) rfl (fun K hK => ?_) AllReadyH.nil
              refine step_enterG (by kernel_rfl) (by simp [Act.eval, entP, go_sem]) ((pick_nat (a := x1) (n := x.fs.length) hkp hkl).mono ?_)
              rintro e W3 ⟨q, hq, rfl, rfl⟩
              refine hK.out _ _ ⟨y1, y2, y3, y4, y5⟩ (fun hHeld12 => ?_)
              clear hK K
              simp only [Act.put, List.setIfInBounds_toArray, List.set_cons_zero, List.set_cons_succ]
              refine wpAnyH_ready (rs := [14]) (by kernel_rfl) (by simp) ?_
              refine AllReadyH.cons (o := { dst := some 137, op := _, type := _, pos := _, after := _, guard := _ }) rfl (fun K hK => ?_) AllReadyH.nil
              refine step_enterG (by kernel_rfl) (by simp [Act.eval, entS, go_sem]) ((((unhide HSTW2).keep (Below.drew (Below.refl _ _))).sets (unhide HXX) hq (u := ⟨2, x2, ⟨#[]⟩⟩) (unhide HFIT)).mono ?_)
              rintro e W4 ⟨rfl, ⟨P4, hst4⟩, hfr⟩
              have HST4 := hide hst4
              have z1 := (World.cell?_of_block (hfr w3.heap.size (cell_lt y1) (unhide HNF))).trans y1
              have z2 := (World.cell?_of_block (hfr b (cell_lt (a := ⟨b, o + (j + 1), none⟩) y2) (unhide HNB))).trans y2
              have z3 := (World.cell?_of_block (hfr (w3.heap.size + 1) (cell_lt y3) (unhide HNV))).trans y3
              have z4 := (World.cell?_of_block (hfr (w3.heap.size + 1) (cell_lt y4) (unhide HNV))).trans y4
              have z5 := (World.cell?_of_block (hfr (w3.heap.size + 1) (cell_lt y5) (unhide HNV))).trans y5
              clear hst4 hfr
              refine hK.out _ _ ⟨z1, z2, z3, z4, z5⟩ (fun hHeld14 => ?_)
              clear hK K
              simp only [Act.put, List.setIfInBounds_toArray, List.set_cons_zero, List.set_cons_succ]
              refine wpAnyH_take (i := 15) (oi := { dst := some 138, op := _, type := _, pos := _, after := _, guard := _ }) (v := ?_) rfl (by kernel_rfl) (by kernel_rfl) (by kernel_rfl) (fun _ _ _ h => h) (Or.inl ⟨by rfl, ?_⟩) (by assumption) ?_
              case refine_2 =>
                intro w hSw
                try dsimp only at hSw
                go_simp
                try with_reducible rfl
              simp only [Act.put, List.setIfInBounds_toArray, List.set_cons_zero, List.set_cons_succ]
              refine wpAnyH_take (i := 16) (oi := { dst := some 139, op := _, type := _, pos := _, after := _, guard := _ }) (v := ?_) rfl (by kernel_rfl) (by kernel_rfl) (by kernel_rfl) (fun _ _ _ h => h) (Or.inl ⟨by rfl, ?_⟩) (by assumption) ?_
              case refine_2 =>
                intro w hSw
                try dsimp only at hSw
                go_simp
                try with_reducible rfl
              simp only [Act.put, List.setIfInBounds_toArray, List.set_cons_zero, List.set_cons_succ]
              refine wpAnyH_done (by kernel_rfl) ?_ _
              go_wp2_with fail
              go_roundg (links.length - (j + 3))
              case measure => omega
              case rel => exact ⟨j + 3, rfl, by go_num, by omega, _, _, _, _, _, unhide HST4⟩
          · have dm : (Int.tmod x2 3 == 0) = false := by simpa using hm
            go_wp2_with fail
            refine (pick_nat (n := i) (by omega) (by omega)).mono ?_
            rintro e w5 ⟨p2, hp2, rfl, rfl⟩
            obtain ⟨g2, cap2, ea2, k3, k4, k5⟩ := (unhide HST).ref hp2
            cases ea2
            have hpi3 : (p2 : Int) < (i : Int) := by omega
            have HFIT := hide (show Fit i (refV p2) from ⟨by show I64 (1 + 2 * (p2 : Int)); exact ⟨by omega, by omega⟩, fun _ => ⟨p2, hp2, rfl⟩⟩)
            go_wp2_with fail
            have hbb := (unhide HBW).alloc (by simp) (.cells #[.int .i64 4, .int .i64 (1 + 2 * (p2 : Int)), .string ⟨#[]⟩] 34)
            have HSTW := hide ((unhide HST).keep hbb)
            have hF := (Below.heap_alloc (w3.alloc (.cells #[.int .i64 4, .int .i64 (1 + 2 * (p : Int)), .string ⟨#[]⟩] 34)) (.cells #[.int .i64 4, .int .i64 (1 + 2 * (p2 : Int)), .string ⟨#[]⟩] 34) w3.heap.size (by simp)).trans (hnew w3 _)
            have hV : ((w3.alloc (.cells #[.int .i64 4, .int .i64 (1 + 2 * (p : Int)), .string ⟨#[]⟩] 34)).alloc (.cells #[.int .i64 4, .int .i64 (1 + 2 * (p2 : Int)), .string ⟨#[]⟩] 34)).heap[w3.heap.size + 1]? = _ := hnewAt _ _ (by simp)
            have f1 := hcell hF 1
            have v0 := hcell hV 0
            have v1 := hcell hV 1
            have v2 := hcell hV 2
            have cl1 := cellk hbb c1 (cell_lt (a := ⟨b, o + (j + 1), none⟩) c1)
            simp only [List.getElem?_toArray, List.getElem?_cons_zero, List.getElem?_cons_succ] at f1 v0 v1 v2
            clear hbb hF hV k0 k1 k2 c0 c1 c2 HST HBW
            generalize (w3.alloc (.cells #[.int .i64 4, .int .i64 (1 + 2 * (p : Int)), .string ⟨#[]⟩] 34)).alloc (.cells #[.int .i64 4, .int .i64 (1 + 2 * (p2 : Int)), .string ⟨#[]⟩] 34) = W at *
            refine (size_at (unhide HSTW).hpg.at' (unhide HSTW).hpg.small (unhide HSTW).hpg.few (unhide HA) (unhide HOB)).mono ?_
            rintro e W2 ⟨rfl, hb2⟩
            have HSTW2 := hide ((unhide HSTW).keep hb2)
            have y1 := cellk hb2 f1 (cell_lt f1)
            have y2 := cellk hb2 cl1 (cell_lt (a := ⟨b, o + (j + 1), none⟩) cl1)
            have y3 := cellk hb2 v0 (cell_lt v0)
            have y4 := cellk hb2 v1 (cell_lt v1)
            have y5 := cellk hb2 v2 (cell_lt v2)
            clear hb2 f1 cl1 v0 v1 v2 HSTW
            by_cases hk0 : x.fs.length = 0
            · have dk : decide ((0 : Int) < (x.fs.length : Int)) = false := decide_eq_false (by omega)
              go_wp2_with fail
              refine wp_region_held_drew (S := (fun w' => w'.cell? ⟨w3.heap.size, 1, none⟩ = some (.int .i64 (1 + 2 * (p : Int))) ∧ w'.cell? ⟨b, o + (j + 1), none⟩ = some (.int .i64 x1) ∧ w'.cell? ⟨w3.heap.size + 1, 0, none⟩ = some (.int .i64 4) ∧ w'.cell? ⟨w3.heap.size + 1, 1, none⟩ = some (.int .i64 (1 + 2 * (p2 : Int))) ∧ w'.cell? ⟨w3.heap.size + 1, 2, none⟩ = some (.string ⟨#[]⟩))) (by kernel_rfl) ⟨y1, y2, y3, y4, y5⟩ (fun hHeld => ?_)
              refine wpAnyH_take (i := 0) (oi := { dst := some 123, op := _, type := _, pos := _, after := _, guard := _ }) (v := ?_) rfl (by kernel_rfl) (by kernel_rfl) (by kernel_rfl) (fun _ _ _ h => h) (Or.inl ⟨by rfl, ?_⟩) (by assumption) ?_
              case refine_2 =>
                intro w hSw
                try dsimp only at hSw
                go_simp
                try with_reducible rfl
              simp only [Act.put, List.setIfInBounds_toArray, List.set_cons_zero, List.set_cons_succ]
              refine wpAnyH_take (i := 1) (oi := { dst := some 124, op := _, type := _, pos := _, after := _, guard := _ }) (v := ?_) rfl (by kernel_rfl) (by kernel_rfl) (by kernel_rfl) (fun _ _ _ h => h) (Or.inl ⟨by rfl, ?_⟩) (by assumption) ?_
              case refine_2 =>
                intro w hSw
                try dsimp only at hSw
                go_simp
                try with_reducible rfl
              simp only [Act.put, List.setIfInBounds_toArray, List.set_cons_zero, List.set_cons_succ]
              refine wpAnyH_take (i := 2) (oi := { dst := some 125, op := _, type := _, pos := _, after := _, guard := _ }) (v := ?_) rfl (by kernel_rfl) (by kernel_rfl) (by kernel_rfl) (fun _ _ _ h => h) (Or.inl ⟨by rfl, ?_⟩) (by assumption) ?_
              case refine_2 =>
                intro w hSw
                try dsimp only at hSw
                go_simp
                try with_reducible rfl
              simp only [Act.put, List.setIfInBounds_toArray, List.set_cons_zero, List.set_cons_succ]
              refine wpAnyH_take (i := 3) (oi := { dst := some 126, op := _, type := _, pos := _, after := _, guard := _ }) (v := undef) rfl (by kernel_rfl) (by kernel_rfl) (by kernel_rfl) (fun _ _ _ h => h) (Or.inr ⟨by rfl, rfl⟩) (by assumption) ?_
              simp only [Act.put, List.setIfInBounds_toArray, List.set_cons_zero, List.set_cons_succ]
              refine wpAnyH_take (i := 4) (oi := { dst := some 127, op := _, type := _, pos := _, after := _, guard := _ }) (v := undef) rfl (by kernel_rfl) (by kernel_rfl) (by kernel_rfl) (fun _ _ _ h => h) (Or.inr ⟨by rfl, rfl⟩) (by assumption) ?_
              simp only [Act.put, List.setIfInBounds_toArray, List.set_cons_zero, List.set_cons_succ]
              refine wpAnyH_take (i := 5) (oi := { dst := some 128, op := _, type := _, pos := _, after := _, guard := _ }) (v := undef) rfl (by kernel_rfl) (by kernel_rfl) (by kernel_rfl) (fun _ _ _ h => h) (Or.inr ⟨by rfl, rfl⟩) (by assumption) ?_
              simp only [Act.put, List.setIfInBounds_toArray, List.set_cons_zero, List.set_cons_succ]
              refine wpAnyH_take (i := 6) (oi := { dst := some 129, op := _, type := _, pos := _, after := _, guard := _ }) (v := undef) rfl (by kernel_rfl) (by kernel_rfl) (by kernel_rfl) (fun _ _ _ h => h) (Or.inr ⟨by rfl, rfl⟩) (by assumption) ?_
              simp only [Act.put, List.setIfInBounds_toArray, List.set_cons_zero, List.set_cons_succ]
              refine wpAnyH_take (i := 7) (oi := { dst := some 130, op := _, type := _, pos := _, after := _, guard := _ }) (v := undef) rfl (by kernel_rfl) (by kernel_rfl) (by kernel_rfl) (fun _ _ _ h => h) (Or.inr ⟨by rfl, rfl⟩) (by assumption) ?_
              simp only [Act.put, List.setIfInBounds_toArray, List.set_cons_zero, List.set_cons_succ]
              refine wpAnyH_take (i := 8) (oi := { dst := some 131, op := _, type := _, pos := _, after := _, guard := _ }) (v := undef) rfl (by kernel_rfl) (by kernel_rfl) (by kernel_rfl) (fun _ _ _ h => h) (Or.inr ⟨by rfl, rfl⟩) (by assumption) ?_
              simp only [Act.put, List.setIfInBounds_toArray, List.set_cons_zero, List.set_cons_succ]
              refine wpAnyH_take (i := 9) (oi := { dst := some 132, op := _, type := _, pos := _, after := _, guard := _ }) (v := undef) rfl (by kernel_rfl) (by kernel_rfl) (by kernel_rfl) (fun _ _ _ h => h) (Or.inr ⟨by rfl, rfl⟩) (by assumption) ?_
              simp only [Act.put, List.setIfInBounds_toArray, List.set_cons_zero, List.set_cons_succ]
              refine wpAnyH_take (i := 10) (oi := { dst := some 133, op := _, type := _, pos := _, after := _, guard := _ }) (v := undef) rfl (by kernel_rfl) (by kernel_rfl) (by kernel_rfl) (fun _ _ _ h => h) (Or.inr ⟨by rfl, rfl⟩) (by assumption) ?_
              simp only [Act.put, List.setIfInBounds_toArray, List.set_cons_zero, List.set_cons_succ]
              refine wpAnyH_take (i := 11) (oi := { dst := some 134, op := _, type := _, pos := _, after := _, guard := _ }) (v := undef) rfl (by kernel_rfl) (by kernel_rfl) (by kernel_rfl) (fun _ _ _ h => h) (Or.inr ⟨by rfl, rfl⟩) (by assumption) ?_
              simp only [Act.put, List.setIfInBounds_toArray, List.set_cons_zero, List.set_cons_succ]
              refine wpAnyH_take (i := 12) (oi := { dst := some 135, op := _, type := _, pos := _, after := _, guard := _ }) (v := undef) rfl (by kernel_rfl) (by kernel_rfl) (by kernel_rfl) (fun _ _ _ h => h) (Or.inr ⟨by rfl, rfl⟩) (by assumption) ?_
              simp only [Act.put, List.setIfInBounds_toArray, List.set_cons_zero, List.set_cons_succ]
              refine wpAnyH_take (i := 13) (oi := { dst := some 136, op := _, type := _, pos := _, after := _, guard := _ }) (v := undef) rfl (by kernel_rfl) (by kernel_rfl) (by kernel_rfl) (fun _ _ _ h => h) (Or.inr ⟨by rfl, rfl⟩) (by assumption) ?_
              simp only [Act.put, List.setIfInBounds_toArray, List.set_cons_zero, List.set_cons_succ]
              refine wpAnyH_take (i := 14) (oi := { dst := some 137, op := _, type := _, pos := _, after := _, guard := _ }) (v := undef) rfl (by kernel_rfl) (by kernel_rfl) (by kernel_rfl) (fun _ _ _ h => h) (Or.inr ⟨by rfl, rfl⟩) (by assumption) ?_
              simp only [Act.put, List.setIfInBounds_toArray, List.set_cons_zero, List.set_cons_succ]
              refine wpAnyH_take (i := 15) (oi := { dst := some 138, op := _, type := _, pos := _, after := _, guard := _ }) (v := undef) rfl (by kernel_rfl) (by kernel_rfl) (by kernel_rfl) (fun _ _ _ h => h) (Or.inr ⟨by rfl, rfl⟩) (by assumption) ?_
              simp only [Act.put, List.setIfInBounds_toArray, List.set_cons_zero, List.set_cons_succ]
              refine wpAnyH_take (i := 16) (oi := { dst := some 139, op := _, type := _, pos := _, after := _, guard := _ }) (v := ?_) rfl (by kernel_rfl) (by kernel_rfl) (by kernel_rfl) (fun _ _ _ h => h) (Or.inl ⟨by rfl, ?_⟩) (by assumption) ?_
              case refine_2 =>
                intro w hSw
                try dsimp only at hSw
                go_simp
                try with_reducible rfl
              simp only [Act.put, List.setIfInBounds_toArray, List.set_cons_zero, List.set_cons_succ]
              refine wpAnyH_done (by kernel_rfl) ?_ _
              go_wp2_with fail
              go_roundg (links.length - (j + 3))
              case measure => omega
              case rel => exact ⟨j + 3, rfl, by go_num, by omega, _, _, _, _, _, (unhide HSTW2).keep (Below.drew (Below.refl _ _))⟩
            · have dk : decide ((0 : Int) < (x.fs.length : Int)) = true := decide_eq_true (by omega)
              have hkp : 0 < x.fs.length := by omega
              have hkl := unhide HXL
              have hwr1 : IntKind.i64.wrap ((j : Int) + 1) = (j : Int) + 1 := wrap_id (by omega) (by omega)
              have h0j : (0 : Int) ≤ (j : Int) + 1 := by omega
              have hlt6 : (j : Int) + 1 < (links.length : Int) := by omega
              have entP : ∀ w : World, Sem.run Try.prog (callFunc 7 #[.int .i64 x1, .int .i64 (x.fs.length : Int)]) w = .ok (.enter 7 #[.int .i64 x1, .int .i64 (x.fs.length : Int)]) w := fun _ => by kernel_rfl
              have entS : ∀ (q : Nat) (w : World), Sem.run Try.prog (callFunc 9 #[.pointer (some ⟨hp, 0, none⟩), .int .i64 (1 + 2 * (p : Int)), .int .i64 (q : Int), .agg #[.int .i64 4, .int .i64 (1 + 2 * (p2 : Int)), .string ⟨#[]⟩]]) w = .ok (.enter 9 #[.pointer (some ⟨hp, 0, none⟩), .int .i64 (1 + 2 * (p : Int)), .int .i64 (q : Int), .agg #[.int .i64 4, .int .i64 (1 + 2 * (p2 : Int)), .string ⟨#[]⟩]]) w := fun _ _ => by kernel_rfl
              go_wp2_with fail
              refine wp_region_held_drew (S := (fun w' => w'.cell? ⟨w3.heap.size, 1, none⟩ = some (.int .i64 (1 + 2 * (p : Int))) ∧ w'.cell? ⟨b, o + (j + 1), none⟩ = some (.int .i64 x1) ∧ w'.cell? ⟨w3.heap.size + 1, 0, none⟩ = some (.int .i64 4) ∧ w'.cell? ⟨w3.heap.size + 1, 1, none⟩ = some (.int .i64 (1 + 2 * (p2 : Int))) ∧ w'.cell? ⟨w3.heap.size + 1, 2, none⟩ = some (.string ⟨#[]⟩))) (by kernel_rfl) ⟨y1, y2, y3, y4, y5⟩ (fun hHeld => ?_)
              refine wpAnyH_take (i := 0) (oi := { dst := some 123, op := _, type := _, pos := _, after := _, guard := _ }) (v := ?_) rfl (by kernel_rfl) (by kernel_rfl) (by kernel_rfl) (fun _ _ _ h => h) (Or.inl ⟨by rfl, ?_⟩) (by assumption) ?_
              case refine_2 =>
                intro w hSw
                try dsimp only at hSw
                go_simp
                try with_reducible rfl
              simp only [Act.put, List.setIfInBounds_toArray, List.set_cons_zero, List.set_cons_succ]
              refine wpAnyH_take (i := 1) (oi := { dst := some 124, op := _, type := _, pos := _, after := _, guard := _ }) (v := ?_) rfl (by kernel_rfl) (by kernel_rfl) (by kernel_rfl) (fun _ _ _ h => h) (Or.inl ⟨by rfl, ?_⟩) (by assumption) ?_
              case refine_2 =>
                intro w hSw
                try dsimp only at hSw
                go_simp
                try with_reducible rfl
              simp only [Act.put, List.setIfInBounds_toArray, List.set_cons_zero, List.set_cons_succ]
              refine wpAnyH_take (i := 2) (oi := { dst := some 125, op := _, type := _, pos := _, after := _, guard := _ }) (v := ?_) rfl (by kernel_rfl) (by kernel_rfl) (by kernel_rfl) (fun _ _ _ h => h) (Or.inl ⟨by rfl, ?_⟩) (by assumption) ?_
              case refine_2 =>
                intro w hSw
                try dsimp only at hSw
                go_simp
                try with_reducible rfl
              simp only [Act.put, List.setIfInBounds_toArray, List.set_cons_zero, List.set_cons_succ]
              refine wpAnyH_take (i := 3) (oi := { dst := some 126, op := _, type := _, pos := _, after := _, guard := _ }) (v := ?_) rfl (by kernel_rfl) (by kernel_rfl) (by kernel_rfl) (fun _ _ _ h => h) (Or.inl ⟨by rfl, ?_⟩) (by assumption) ?_
              case refine_2 =>
                intro w hSw
                try dsimp only at hSw
                go_simp
                try with_reducible rfl
              simp only [Act.put, List.setIfInBounds_toArray, List.set_cons_zero, List.set_cons_succ]
              refine wpAnyH_take (i := 4) (oi := { dst := some 127, op := _, type := _, pos := _, after := _, guard := _ }) (v := ?_) rfl (by kernel_rfl) (by kernel_rfl) (by kernel_rfl) (fun _ _ _ h => h) (Or.inl ⟨by rfl, ?_⟩) (by assumption) ?_
              case refine_2 =>
                intro w hSw
                try dsimp only at hSw
                go_simp
                try with_reducible rfl
              simp only [Act.put, List.setIfInBounds_toArray, List.set_cons_zero, List.set_cons_succ]
              refine wpAnyH_take (i := 5) (oi := { dst := some 128, op := _, type := _, pos := _, after := _, guard := _ }) (v := ?_) rfl (by kernel_rfl) (by kernel_rfl) (by kernel_rfl) (fun _ _ _ h => h) (Or.inl ⟨by rfl, ?_⟩) (by assumption) ?_
              case refine_2 =>
                intro w hSw
                try dsimp only at hSw
                go_simp
                try with_reducible rfl
              simp only [Act.put, List.setIfInBounds_toArray, List.set_cons_zero, List.set_cons_succ]
              refine wpAnyH_take (i := 6) (oi := { dst := some 129, op := _, type := _, pos := _, after := _, guard := _ }) (v := ?_) rfl (by kernel_rfl) (by kernel_rfl) (by kernel_rfl) (fun _ _ _ h => h) (Or.inl ⟨by rfl, ?_⟩) (by assumption) ?_
              case refine_2 =>
                intro w hSw
                try dsimp only at hSw
                go_simp
                try with_reducible rfl
              simp only [Act.put, List.setIfInBounds_toArray, List.set_cons_zero, List.set_cons_succ]
              refine wpAnyH_take (i := 7) (oi := { dst := some 130, op := _, type := _, pos := _, after := _, guard := _ }) (v := ?_) rfl (by kernel_rfl) (by kernel_rfl) (by kernel_rfl) (fun _ _ _ h => h) (Or.inl ⟨by rfl, ?_⟩) (by assumption) ?_
              case refine_2 =>
                intro w hSw
                try dsimp only at hSw
                go_simp
                try with_reducible rfl
              simp only [Act.put, List.setIfInBounds_toArray, List.set_cons_zero, List.set_cons_succ]
              refine wpAnyH_take (i := 8) (oi := { dst := some 131, op := _, type := _, pos := _, after := _, guard := _ }) (v := ?_) rfl (by kernel_rfl) (by kernel_rfl) (by kernel_rfl) (fun _ _ _ h => h) (Or.inl ⟨by rfl, ?_⟩) (by assumption) ?_
              case refine_2 =>
                intro w hSw
                try dsimp only at hSw
                go_simp
                try with_reducible rfl
              simp only [Act.put, List.setIfInBounds_toArray, List.set_cons_zero, List.set_cons_succ]
              refine wpAnyH_take (i := 9) (oi := { dst := some 132, op := _, type := _, pos := _, after := _, guard := _ }) (v := ?_) rfl (by kernel_rfl) (by kernel_rfl) (by kernel_rfl) (fun _ _ _ h => h) (Or.inl ⟨by rfl, ?_⟩) (by assumption) ?_
              case refine_2 =>
                intro w hSw
                try dsimp only at hSw
                go_simp
                try with_reducible rfl
              simp only [Act.put, List.setIfInBounds_toArray, List.set_cons_zero, List.set_cons_succ]
              refine wpAnyH_take (i := 10) (oi := { dst := some 133, op := _, type := _, pos := _, after := _, guard := _ }) (v := ?_) rfl (by kernel_rfl) (by kernel_rfl) (by kernel_rfl) (fun _ _ _ h => h) (Or.inl ⟨by rfl, ?_⟩) (by assumption) ?_
              case refine_2 =>
                intro w hSw
                try dsimp only at hSw
                go_simp
                try with_reducible rfl
              simp only [Act.put, List.setIfInBounds_toArray, List.set_cons_zero, List.set_cons_succ]
              refine wpAnyH_take (i := 11) (oi := { dst := some 134, op := _, type := _, pos := _, after := _, guard := _ }) (v := ?_) rfl (by kernel_rfl) (by kernel_rfl) (by kernel_rfl) (fun _ _ _ h => h) (Or.inl ⟨by rfl, ?_⟩) (by assumption) ?_
              case refine_2 =>
                intro w hSw
                try dsimp only at hSw
                go_simp
                try with_reducible rfl
              simp only [Act.put, List.setIfInBounds_toArray, List.set_cons_zero, List.set_cons_succ]
              refine wpAnyH_take (i := 13) (oi := { dst := some 136, op := _, type := _, pos := _, after := _, guard := _ }) (v := ?_) rfl (by kernel_rfl) (by kernel_rfl) (by kernel_rfl) (fun _ _ _ h => h) (Or.inl ⟨by rfl, ?_⟩) (by assumption) ?_
              case refine_2 =>
                intro w hSw
                try dsimp only at hSw
                go_simp
                try with_reducible rfl
              simp only [Act.put, List.setIfInBounds_toArray, List.set_cons_zero, List.set_cons_succ]
              refine wpAnyH_ready (rs := [12]) (by kernel_rfl) (by simp) ?_
              refine AllReadyH.cons (o := { dst := some 135, op := _, type := _, pos := _, after := _, guard := _ }) rfl (fun K hK => ?_) AllReadyH.nil
              refine step_enterG (by kernel_rfl) (by simp [Act.eval, entP, go_sem]) ((pick_nat (a := x1) (n := x.fs.length) hkp hkl).mono ?_)
              rintro e W3 ⟨q, hq, rfl, rfl⟩
              refine hK.out _ _ ⟨y1, y2, y3, y4, y5⟩ (fun hHeld12 => ?_)
              clear hK K
              simp only [Act.put, List.setIfInBounds_toArray, List.set_cons_zero, List.set_cons_succ]
              refine wpAnyH_ready (rs := [14]) (by kernel_rfl) (by simp) ?_
              refine AllReadyH.cons (o := { dst := some 137, op := _, type := _, pos := _, after := _, guard := _ }) rfl (fun K hK => ?_) AllReadyH.nil
              refine step_enterG (by kernel_rfl) (by simp [Act.eval, entS, go_sem]) ((((unhide HSTW2).keep (Below.drew (Below.refl _ _))).sets (unhide HXX) hq (u := ⟨4, 1 + 2 * (p2 : Int), ⟨#[]⟩⟩) (unhide HFIT)).mono ?_)
              rintro e W4 ⟨rfl, ⟨P4, hst4⟩, hfr⟩
              have HST4 := hide hst4
              have z1 := (World.cell?_of_block (hfr w3.heap.size (cell_lt y1) (unhide HNF))).trans y1
              have z2 := (World.cell?_of_block (hfr b (cell_lt (a := ⟨b, o + (j + 1), none⟩) y2) (unhide HNB))).trans y2
              have z3 := (World.cell?_of_block (hfr (w3.heap.size + 1) (cell_lt y3) (unhide HNV))).trans y3
              have z4 := (World.cell?_of_block (hfr (w3.heap.size + 1) (cell_lt y4) (unhide HNV))).trans y4
              have z5 := (World.cell?_of_block (hfr (w3.heap.size + 1) (cell_lt y5) (unhide HNV))).trans y5
              clear hst4 hfr
              refine hK.out _ _ ⟨z1, z2, z3, z4, z5⟩ (fun hHeld14 => ?_)
              clear hK K
              simp only [Act.put, List.setIfInBounds_toArray, List.set_cons_zero, List.set_cons_succ]
              refine wpAnyH_take (i := 15) (oi := { dst := some 138, op := _, type := _, pos := _, after := _, guard := _ }) (v := ?_) rfl (by kernel_rfl) (by kernel_rfl) (by kernel_rfl) (fun _ _ _ h => h) (Or.inl ⟨by rfl, ?_⟩) (by assumption) ?_
              case refine_2 =>
                intro w hSw
                try dsimp only at hSw
                go_simp
                try with_reducible rfl
              simp only [Act.put, List.setIfInBounds_toArray, List.set_cons_zero, List.set_cons_succ]
              refine wpAnyH_take (i := 16) (oi := { dst := some 139, op := _, type := _, pos := _, after := _, guard := _ }) (v := ?_) rfl (by kernel_rfl) (by kernel_rfl) (by kernel_rfl) (fun _ _ _ h => h) (Or.inl ⟨by rfl, ?_⟩) (by assumption) ?_
              case refine_2 =>
                intro w hSw
                try dsimp only at hSw
                go_simp
                try with_reducible rfl
              simp only [Act.put, List.setIfInBounds_toArray, List.set_cons_zero, List.set_cons_succ]
              refine wpAnyH_done (by kernel_rfl) ?_ _
              go_wp2_with fail
              go_roundg (links.length - (j + 3))
              case measure => omega
              case rel => exact ⟨j + 3, rfl, by go_num, by omega, _, _, _, _, _, unhide HST4⟩
        · have hlt5 : ¬ (j : Int) + 2 < (links.length : Int) := by omega
          have hlt6 : decide ((j : Int) + 2 < (links.length : Int)) = false := decide_eq_false hlt5
          obtain ⟨P, D, n, vyo, vyf, hst⟩ := unhide HI
          obtain ⟨g, cap, ea, k0, k1, k2⟩ := hst.ref (j := 0) hN0
          cases ea
          have k0 : wr.cell? ⟨g, 0, none⟩ = some (.int .i64 4) := k0
          have k1 : wr.cell? ⟨g, 1, none⟩ = some (.int .i64 1) := k1
          have k2 : wr.cell? ⟨g, 2, none⟩ = some (.string ⟨#[]⟩) := k2
          have mm : ∀ w : World, (Go.Instr.makeMap 37 none).run Try.prog w = .ok (.map (some w.heap.size)) (w.alloc (.map #[] 0)) := fun _ => rfl
          have hii : (0 : Int) < (i : Int) := by omega
          have HST := hide hst
          clear hst HI
          go_wp2_with fail
          obtain ⟨out, seen, hsh, hle, hfu, hou, hse⟩ := (unhide HST).shape hN0 hN1
          have hA : Below wr.heap.size wr (wr.alloc (.cells #[.int .i64 4, .int .i64 1, .string ⟨#[]⟩] 34)) := (Below.refl _ _).alloc (Nat.le_refl _) _
          have HRT := hide (show RootAt ((wr.alloc (.cells #[.int .i64 4, .int .i64 1, .string ⟨#[]⟩] 34)).alloc (.map #[] 0)) wr.heap.size ⟨4, 1, ⟨#[]⟩⟩ from RootAt.made ((Below.heap_alloc _ _ wr.heap.size (by simp)).trans (hnew wr _)))
          have HSB := hide (show SeenAt ((wr.alloc (.cells #[.int .i64 4, .int .i64 1, .string ⟨#[]⟩] 34)).alloc (.map #[] 0)) (wr.heap.size + 1) [] by
            have := SeenAt.made (wr.alloc (.cells #[.int .i64 4, .int .i64 1, .string ⟨#[]⟩] 34))
            simpa using this)
          have HSTA := hide ((unhide HST).keep (hA.alloc (by simp) (.map #[] 0)))
          have HNF := hide (show vyf.ownBlock ≠ some wr.heap.size from fun e => Nat.lt_irrefl _ (owns_ty (unhide HST).hpg.at'.yf e).lt)
          have HNM := hide (show wr.heap.size + 1 ≠ mb from fun e => by
            obtain ⟨_, _, m1, _⟩ := (unhide HST).hpg.own
            have := hlt m1
            omega)
          have HWS := hide (unhide HST).bel.size
          have HSH := hide (show shp P 1000 ⟨4, 1, ⟨#[]⟩⟩ [] = some (out, seen) ∧ Leads P ⟨4, 1, ⟨#[]⟩⟩ ∧ left (P.Y ++ P.O) [] < 1000 from ⟨hsh, hle, hfu⟩)
          have HOU := hide hou
          have HSE := hide hse
          have hWA : w.heap.size ≤ ((wr.alloc (.cells #[.int .i64 4, .int .i64 1, .string ⟨#[]⟩] 34)).alloc (.map #[] 0)).heap.size := (unhide HSTA).bel.size
          clear hA hsh hle hfu hou hse HST k0 k1 k2
          generalize (wr.alloc (.cells #[.int .i64 4, .int .i64 1, .string ⟨#[]⟩] 34)).alloc (.map #[] 0) = W at *
          have HNU : Hid (Nums P) := fun x hx => by
            have q := ((unhide HSTA).ph.good hN1).pos x hx
            exact ⟨⟨by omega, by omega⟩, ((unhide HSTA).hpg.vals x hx).2⟩
          refine (shape_any (unhide HSTA).hpg.small (unhide HSTA).hpg.few (unhide HNU) 1000 W ⟨4, 1, ⟨#[]⟩⟩ [] out seen (unhide HSH).1 ⟨by decide, by decide⟩ (unhide HSTA).hpg.at' (unhide HSB) (by have := unhide HOU; omega) (by have := unhide HSE; omega)).mono ?_
          rintro e w5 ⟨g5, cap5, rfl, hrow5, hsn5, hg5⟩
          have HCO := hide (show ∃ P D n vyo vyf voo vof root, Co w w5 hp mb wr.heap.size (wr.heap.size + 1) (.slice (some ⟨g5, 0, none⟩) out.length cap5) out seen 0 P D n vyo vyf voo vof root from ⟨P, D, n, vyo, vyf, _, _, _, (unhide HSTA).co hN0 hN1 (unhide HSH).1 (unhide HSH).2.1 (unhide HSH).2.2 (unhide HOU) (unhide HSE) (unhide HRT) (unhide HNF) (unhide HWS) (unhide HSB).blk (unhide HNM) hg5 hsn5 (owns_base hrow5 hWA) (by have := unhide HWS; omega)⟩)
          clear hrow5 hsn5 hg5 HSTA HRT HSB HNF HNM HSH HNU hWA
          go_wp2_with fail
          obtain ⟨rb, hrb⟩ : ∃ rb, wr.heap.size = rb := ⟨_, rfl⟩
          obtain ⟨sb, hsb⟩ : ∃ sb, wr.heap.size + 1 = sb := ⟨_, rfl⟩
          rw [hsb, hrb] at HCO
          rw [hsb, hrb]
          clear hsb hrb HWS
          go_loopg [20] l.length (fun gg iv wx => ∃ (t : Nat), gg = l.length - t ∧ iv = .int .i64 t ∧ t ≤ l.length ∧ Hid (∃ P D n vyo vyf voo vof root, Co w wx hp mb rb sb (.slice (some ⟨g5, 0, none⟩) out.length cap5) out seen t P D n vyo vyf voo vof root))
          case atStart => exact ⟨0, rfl, rfl, Nat.zero_le _, unhide HCO⟩
          case round =>
            obtain ⟨t, rfl, rfl, htl, HI⟩ := hrel
            obtain ⟨P, D, n, vyo, vyf, voo, vof, root, hco⟩ := unhide HI
            have HCO := hide hco
            have htt := (unhide HLL).2
            clear HI hco
            by_cases hlt7 : t < l.length
            · have hlt8 : (t : Int) < (l.length : Int) := by omega
              obtain ⟨x, hx⟩ : ∃ x, l[t]? = some x := ⟨_, List.getElem?_eq_getElem hlt7⟩
              obtain ⟨b, o, rfl, c0⟩ := nums_cell (unhide HL) (unhide HCO).bel hx
              have HX := hide hx
              clear hx
              by_cases hm : Int.tmod x 2 = 0
              · have dm : (Int.tmod x 2 == 0) = true := by simpa using hm
                go_wp2_with fail
                have HCA := hide ((unhide HCO).keep ((Below.refl wr.heap.size wr).alloc (Nat.le_refl _) (.cells #[.pointer (some ⟨rb, 0, none⟩)] 40)))
                have HFR := hide ((unhide HCA).free (gb := wr.heap.size) (m := 1) (hnew wr _) (one_ptr rb) (by decide))
                generalize wr.alloc (.cells #[.pointer (some ⟨rb, 0, none⟩)] 40) = W at *
                have a1 := (unhide HCA).nn
                have a2 := (unhide HCA).cells
                have a3 := (unhide HCA).ro
                refine (minor_clean (unhide HCA).hpg (unhide HCA).noted (unhide HFR) 1 (by omega) (by omega)).mono ?_
                rintro e w4 ⟨rfl, q⟩
                obtain ⟨P4, D4, n4, vy4, vf4, vo4, vg4, root4, hco4⟩ := (unhide HCA).minor (by omega) (by decide) q
                have HC4 := hide hco4
                obtain ⟨b', o', e', c4⟩ := nums_cell (unhide HL) hco4.bel (unhide HX)
                cases e'
                have r0 := hco4.rt.2.1
                have r1 := hco4.rt.2.2.1
                have r2 := hco4.rt.2.2.2
                have q0 := neqNilG
                clear hco4 q a1 a2 a3 HCA HFR HCO c0
                go_wp2_with fail
                refine (shape_any (unhide HC4).hpg.small (unhide HC4).hpg.few (unhide HC4).nums 1000 _ root4 [] out seen (unhide HC4).shape (unhide HC4).i64 ((unhide HC4).hpg.at'.keep ((Below.refl _ _).alloc (Nat.le_refl _) _)) (SeenAt.made w4) (by have := (unhide HC4).so; omega) (by have := (unhide HC4).ss; omega)).mono ?_
                rintro e w5 ⟨g6, cap6, rfl, hrow6, _, hg6⟩
                have HC5 := hide ((unhide HC4).keep (below_made hg6))
                have HROW6 := hide hrow6
                clear hrow6 hg6 r0 r1 r2 c4
                go_wp2_with fail
                refine (same_any (nums_of_row (unhide HROW6) rfl) (nums_of_row (unhide HC5).was rfl) (by have := (unhide HC4).so; omega)).mono ?_
                rintro e w6 ⟨rfl, hb6⟩
                have HC6 := hide ((unhide HC5).keep hb6)
                obtain ⟨b', o', e', c6⟩ := nums_cell (unhide HL) (unhide HC6).bel (unhide HX)
                cases e'
                clear hb6 HROW6
                go_wp2_with fail
                go_roundg (l.length - (t + 1))
                case measure => omega
                case rel => exact ⟨t + 1, rfl, by go_num, by omega, _, _, _, _, _, _, _, _, unhide HC6⟩
              · have dm : (Int.tmod x 2 == 0) = false := by simpa using hm
                go_wp2_with fail
                have HCA := hide ((unhide HCO).keep ((Below.refl wr.heap.size wr).alloc (Nat.le_refl _) (.cells #[.pointer (some ⟨rb, 0, none⟩), .pointer (some ⟨rb, 0, none⟩)] 40)))
                have HFR := hide ((unhide HCA).free (gb := wr.heap.size) (m := 2) (hnew wr _) (two_ptrs rb) (by decide))
                generalize wr.alloc (.cells #[.pointer (some ⟨rb, 0, none⟩), .pointer (some ⟨rb, 0, none⟩)] 40) = W at *
                have a1 := (unhide HCA).nn
                have a2 := (unhide HCA).cells
                have a3 := (unhide HCA).ro
                refine (major_any (unhide HCA).hpg (unhide HFR) 2 (by omega) (by omega)).mono ?_
                rintro e w4 ⟨rfl, q⟩
                obtain ⟨P4, D4, n4, vy4, vf4, vo4, vg4, root4, hco4, hcnt⟩ := (unhide HCA).major (by omega) (by decide) q
                have HC4 := hide hco4
                have HCNT := hide hcnt
                clear hcnt
                obtain ⟨b', o', e', c4⟩ := nums_cell (unhide HL) hco4.bel (unhide HX)
                cases e'
                have r0 := hco4.rt.2.1
                have r1 := hco4.rt.2.2.1
                have r2 := hco4.rt.2.2.2
                have q0 := neqNilG
                clear hco4 q a1 a2 a3 HCA HFR HCO c0
                go_wp2_with fail
                refine (shape_any (unhide HC4).hpg.small (unhide HC4).hpg.few (unhide HC4).nums 1000 _ root4 [] out seen (unhide HC4).shape (unhide HC4).i64 ((unhide HC4).hpg.at'.keep ((Below.refl _ _).alloc (Nat.le_refl _) _)) (SeenAt.made w4) (by have := (unhide HC4).so; omega) (by have := (unhide HC4).ss; omega)).mono ?_
                rintro e w5 ⟨g6, cap6, rfl, hrow6, _, hg6⟩
                have HC5 := hide ((unhide HC4).keep (below_made hg6))
                have HROW6 := hide hrow6
                clear hrow6 hg6 r0 r1 r2 c4
                go_wp2_with fail
                refine (same_any (nums_of_row (unhide HROW6) rfl) (nums_of_row (unhide HC5).was rfl) (by have := (unhide HC4).so; omega)).mono ?_
                rintro e w6 ⟨rfl, hb6⟩
                have HC6 := hide ((unhide HC5).keep hb6)
                obtain ⟨b', o', e', c6⟩ := nums_cell (unhide HL) (unhide HC6).bel (unhide HX)
                cases e'
                clear hb6 HROW6
                go_wp2_with fail
                refine (ids_any (unhide HC6).hpg (by have := (unhide HC6).hpg.own.size_le; have := (unhide HC6).nn; omega)).mono ?_
                rintro e w7 ⟨g7, cap7, he, hb7⟩
                rw [unhide HCNT] at he
                subst he
                have HC7 := hide ((unhide HC6).keep hb7)
                have ln := (unhide HC7).sn.len
                clear hb7
                go_wp2_with fail
                go_roundg (l.length - (t + 1))
                case measure => omega
                case rel => exact ⟨t + 1, rfl, by go_num, by omega, _, _, _, _, _, _, _, _, unhide HC7⟩
            · obtain rfl : t = l.length := by omega
              have hlt8 : decide ((l.length : Int) < (l.length : Int)) = false := by simp
              go_wp2_with fail
              go_ret
              exact ⟨rfl, (unhide HCO).bel⟩
end Go.Proofs.Ytddfdefgdlfpmaa
