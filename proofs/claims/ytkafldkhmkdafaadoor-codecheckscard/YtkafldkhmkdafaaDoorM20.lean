/-
  Constants are read; lists of flat things are read.
-/
import Derived.Test.YtkafldkhmkdafaaDoorM19
namespace Go.Proofs.YtkafldkhmkdafaaDoor
open Go.RowKit
attribute [local go_sem ↓] Go.wp_at_zero Go.wp_at_succ

theorem infoCC : (Tryd.prog.info? 76).map (fun i => (i.zero, i.size, i.bytes)) = some (some (.agg #[.bool false, .string ByteArray.empty, .int .i64 0]), 3, 32) := by kernel_rfl
theorem infoCI : (Tryd.prog.info? 79).map (fun i => (i.zero, i.size, i.bytes)) = some (some (.agg #[.int .i64 0, .int .i64 0, .int .i64 0]), 3, 24) := by kernel_rfl
theorem infoCH : (Tryd.prog.info? 82).map (fun i => (i.zero, i.size, i.bytes)) = some (some (.agg #[.int .i64 0, .int .i64 0, .int .i64 0]), 3, 24) := by kernel_rfl
theorem infoCV : (Tryd.prog.info? 85).map (fun i => (i.zero, i.size, i.bytes)) = some (some (.agg #[.string ByteArray.empty, .int .i64 0, .int .i64 0, .int .i64 0, .bool false]), 5, 48) := by kernel_rfl
theorem infoCS : (Tryd.prog.info? 9).map (fun i => (i.zero, i.size, i.bytes)) = some (some (.string ByteArray.empty), 1, 16) := by kernel_rfl

set_option maxRecDepth 100000 in
set_option maxHeartbeats 4000000 in
theorem constant_any {w : World} {r : Nat} {l : List Int} {wb : Bool} (h : RdAt w r l wb) :
    Calls Tryd.prog 34 #[.pointer (some ⟨r, 0, none⟩)] w fun e w' => Got okC encC valC r l wb w e w' := by
  have hrl := h.lt
  obtain ⟨w0, hw0⟩ : ∃ w0, w.alloc (.cells #[.bool false, .string ⟨#[]⟩, .int .i64 0] 76) = w0 := ⟨_, rfl⟩
  have hb0 : Below w.heap.size w w0 := by rw [← hw0]; exact (Below.refl _ _).alloc (Nat.le_refl _) _
  have hk0 : w0.heap[w.heap.size]? = some (.cells #[.bool false, .string ⟨#[]⟩, .int .i64 0] 76 (0, 0)) := by rw [← hw0]; exact hnew _ _
  have H0 := hide (h.keep hb0)
  have E0 := hide (Ext.of_below (r := r) hb0)
  have K0 := hide hk0
  have HRB := hide (show w.heap.size ≠ r by omega)
  clear h hb0 hk0
  go_enter Tryd.func34, Tryd.ntmps34
  go_wp2_with fail
  try rw [hw0]
  clear hw0
  refine (truth_any (unhide H0)).mono ?_
  rintro e w1 ⟨t, l1, b1, rfl, hr1, he1, hl1, hw1⟩
  have H1 := hide hr1
  have E1 := hide ((unhide E0).trans he1)
  have K1 := hide ((he1.block _ (hlt (unhide K0)) (unhide HRB)).trans (unhide K0))
  have L1 := hide hl1
  have W1 := hide hw1
  clear hr1 he1 hl1 hw1
  cases t with
  | true =>
    go_wp2_with fail
    refine (rtext_any (unhide H1)).mono ?_
    rintro e w2 ⟨s, l2, b2, rfl, hr2, he2, hl2, hw2⟩
    have H2 := hide hr2
    have E2 := hide ((unhide E1).trans he2)
    have K2 := hide ((he2.block _ (hlt (unhide K1)) (unhide HRB)).trans (unhide K1))
    have L2 := hide hl2
    have W2 := hide hw2
    have kb := unhide K2
    have z0 := hcell kb 0
    have z1 := hcell kb 1
    have z2 := hcell kb 2
    have y0 := hfroz kb 0
    have y1 := hfroz kb 1
    have y2 := hfroz kb 2
    clear hr2 he2 hl2 hw2 kb
    go_wp2_with fail
    have hfin : (((w2.setCell ⟨w.heap.size, 0, none⟩ (.bool true)).setCell ⟨w.heap.size, 1, none⟩ (.string s)).setCell ⟨w.heap.size, 2, none⟩ (.int .i64 0)).heap[w.heap.size]? = some (.cells #[.bool true, .string s, .int .i64 0] 76 (0, 0)) := hset (hset (hset (unhide K2) 0 _) 1 _) 2 _
    refine bodyPost_ret (v := .agg #[.bool true, .string s, .int .i64 0]) (results_cell_row Tryd.results34 _ _ w.heap.size 76 _ (0, 0) _ rfl hfin Tryd.underlying76 rfl (by kernel_rfl)) rfl ?_
    refine ⟨⟨true, s, 0⟩, l2, b2, rfl, (show I64 0 from ⟨by decide, by decide⟩), (((unhide H2).setFar hrl 0 _).setFar hrl 1 _).setFar hrl 2 _, (((unhide E2).setNew (Nat.le_refl _) 0 _).setNew (Nat.le_refl _) 1 _).setNew (Nat.le_refl _) 2 _, Nat.le_trans (unhide L2) (unhide L1), fun q => ?_⟩
    obtain ⟨q, e2⟩ := (unhide W2) q
    obtain ⟨q, e1⟩ := (unhide W1) q
    exact ⟨q, by rw [e1, e2]; simp [encC, encB]⟩
  | false =>
    go_wp2_with fail
    refine (number_any (unhide H1)).mono ?_
    rintro e w2 ⟨n, l2, b2, rfl, hn, hr2, he2, hl2, hw2⟩
    have H2 := hide hr2
    have E2 := hide ((unhide E1).trans he2)
    have K2 := hide ((he2.block _ (hlt (unhide K1)) (unhide HRB)).trans (unhide K1))
    have L2 := hide hl2
    have W2 := hide hw2
    have kb := unhide K2
    have z0 := hcell kb 0
    have z1 := hcell kb 1
    have z2 := hcell kb 2
    have y0 := hfroz kb 0
    have y1 := hfroz kb 1
    have y2 := hfroz kb 2
    clear hr2 he2 hl2 hw2 kb
    go_wp2_with fail
    have hfin : (((w2.setCell ⟨w.heap.size, 0, none⟩ (.bool false)).setCell ⟨w.heap.size, 1, none⟩ (.string ⟨#[]⟩)).setCell ⟨w.heap.size, 2, none⟩ (.int .i64 n)).heap[w.heap.size]? = some (.cells #[.bool false, .string ⟨#[]⟩, .int .i64 n] 76 (0, 0)) := hset (hset (hset (unhide K2) 0 _) 1 _) 2 _
    refine bodyPost_ret (v := .agg #[.bool false, .string ⟨#[]⟩, .int .i64 n]) (results_cell_row Tryd.results34 _ _ w.heap.size 76 _ (0, 0) _ rfl hfin Tryd.underlying76 rfl (by kernel_rfl)) rfl ?_
    refine ⟨⟨false, ⟨#[]⟩, n⟩, l2, b2, rfl, hn, (((unhide H2).setFar hrl 0 _).setFar hrl 1 _).setFar hrl 2 _, (((unhide E2).setNew (Nat.le_refl _) 0 _).setNew (Nat.le_refl _) 1 _).setNew (Nat.le_refl _) 2 _, Nat.le_trans (unhide L2) (unhide L1), fun q => ?_⟩
    obtain ⟨q, e2⟩ := (unhide W2) q
    obtain ⟨q, e1⟩ := (unhide W1) q
    exact ⟨q, by rw [e1, e2]; simp [encC, encB]⟩

theorem onelistC (x : PC) : ∀ u ∈ ([.bool x.text, .string x.s, .int .i64 x.n] : List Value), u.oneCell' = true := fun u hu => by
  simp at hu
  rcases hu with rfl | rfl | rfl <;> rfl
theorem rowlistC (xs : List PC) (x : PC) : (∀ i, i < xs.length → constRow (xs ++ [x]) i = constRow xs i) ∧ ∀ j, j < 3 → ([.bool x.text, .string x.s, .int .i64 x.n] : List Value)[j]? = some (constRow (xs ++ [x]) xs.length j) := by
  refine ⟨fun i hi => ?_, fun j hj => ?_⟩
  · funext j
    unfold constRow
    rw [old_get hi]
  · unfold constRow
    rw [new_get]
    match j, hj with
    | 0, _ => rfl
    | 1, _ => rfl
    | 2, _ => rfl
set_option maxRecDepth 100000 in
set_option maxHeartbeats 4000000 in
theorem listC {w : World} {r : Nat} {l : List Int} {wb : Bool} (h : RdAt w r l wb) :
    Calls Tryd.prog 33 #[.pointer (some ⟨r, 0, none⟩), .func (.func 34) #[.pointer (some ⟨r, 0, none⟩)] #[]] w fun e w' => ListPost okC encC (ElF 3 constRow) 76 3 r l wb w e w' := by
  have hrl := h.lt
  have HRL := hide hrl
  have H := hide h
  obtain ⟨i0, hi, hz0, hz1, hz2⟩ := info_parts infoCC
  clear h
  go_enter Tryd.func33, Tryd.ntmps33
  go_wp2_with fail
  refine (many_any (unhide H)).mono ?_
  rintro e w1 ⟨n, l1, wb1, rfl, hn, hr1, he1, hl1, hw1⟩
  have HM0 := hide (show LInv okC encC (ElF 3 constRow) 76 3 r l l1 wb1 w [] (.slice none 0 0) [] l1 wb1 w1 from LInv.start hr1 he1 hl1 (Flat.nil _ _))
  have hn2 : n ≤ 110000 := Nat.le_trans hn hr1.len
  have HW := hide hw1
  clear hr1 he1 hl1 hw1 hn
  go_wp2_with fail
  go_loopg [5, 8] n (fun gg v i wr => ∃ (k : Nat) (V : Value), k ≤ n ∧ gg = n - k ∧ i = .int .i64 k ∧ v = V ∧ Hid (∃ xs cells l2 wb2, xs.length = k ∧ LInv okC encC (ElF 3 constRow) 76 3 r l l1 wb1 w xs V cells l2 wb2 wr))
  case atStart => exact ⟨0, .slice none 0 0, Nat.zero_le _, rfl, rfl, rfl, [], [], l1, wb1, rfl, unhide HM0⟩
  case round =>
    obtain ⟨k, v, hk, rfl, rfl, rfl, HY⟩ := hrel
    obtain ⟨xs, cells, l2, wb2, rfl, hm⟩ := unhide HY
    have HM := hide hm
    have HR2 := hide hm.rd
    obtain ⟨g2, cap2, t2, hbk, _⟩ := hm.rd.blk
    have c1 : wr.cell? ⟨r, 1, none⟩ = some (.bool wb2) := hcell hbk 1
    clear hbk hm HY
    by_cases hlk : xs.length < n
    · have hk2 : (xs.length : Int) < (n : Int) := by omega
      cases wb2 with
      | true =>
        go_wp2_with fail
        go_ret
        exact (unhide HM).wrong
      | false =>
        go_wp2_with fail
        refine (constant_any (unhide HR2)).mono ?_
        rintro e w3 ⟨x, l3, wb3, rfl, hok, hr3, he3, hl3, hw3⟩
        simp only [valC]
        have HO := hide (owns_alloc (owns_ext (unhide HM).own he3 (unhide HRL)) (.cells #[.bool x.text, .string x.s, .int .i64 x.n] 76))
        have HR3 := hide hr3
        have HE3 := hide he3
        have HL3 := hide hl3
        have HW3 := hide hw3
        have HOK := hide hok
        have hs3 : w.heap.size ≤ w3.heap.size := Nat.le_trans (unhide HM).ext.size he3.size
        clear hr3 he3 hl3 hw3 hok c1
        go_wp2_with (at_builtin; refine wpList_append_lies _ rfl _ _ _ rfl w.heap.size 76 i0 (.agg #[.bool false, .string ByteArray.empty, .int .i64 0]) 3 32 Tryd.underlying23 hi hz0 hz1 hz2 rfl (by decide) _ xs.length cells rfl (unhide HO) ⟨w3.heap.size, 0, none⟩ 1 1 [.bool x.text, .string x.s, .int .i64 x.n] rfl rfl (news_at rfl _ _) ?c2 (by decide) ?c3 ?c4 ?c5 (w3.heap.size + 1) ?c6 ?_)
        case c2 => first | exact onelistC x | exact ⟨rfl, rfl, rfl⟩ | rfl
        case c3 => unfold maxLen; omega
        case c4 => omega
        case c5 => first | omega | (simp; omega)
        try case c6 => simp
        intro g cap w5 hown hgrow hat hlt5
        have HM5 := hide ((unhide HM).snoc (unhide HRL) (unhide HOK) (unhide HR3) (unhide HE3) (unhide HL3) (fun q => ⟨rfl, ((unhide HW3) q).2⟩) hown hgrow (ElF.snoc (unhide HM).el (unhide HM).own.1 (rowlistC xs x).1 (rowlistC xs x).2))
        clear hown hgrow hat hlt5
        go_wp2_with fail
        go_roundg (n - (xs.length + 1))
        case measure => omega
        case rel => exact ⟨xs.length + 1, _, by omega, rfl, by go_num, rfl, _, _, l3, wb3, by simp, unhide HM5⟩
    · have hk2 : ¬ (xs.length : Int) < (n : Int) := by omega
      go_wp2_with fail
      go_ret
      exact (unhide HM).done (by omega) hn2 (unhide HW)

theorem onelistS (x : ByteArray) : ∀ u ∈ ([.string x] : List Value), u.oneCell' = true := fun u hu => by
  simp at hu
  subst hu; rfl
theorem rowlistS (xs : List ByteArray) (x : ByteArray) : (∀ i, i < xs.length → strRow (xs ++ [x]) i = strRow xs i) ∧ ∀ j, j < 1 → ([.string x] : List Value)[j]? = some (strRow (xs ++ [x]) xs.length j) := by
  refine ⟨fun i hi => ?_, fun j hj => ?_⟩
  · funext j
    unfold strRow
    rw [old_get hi]
  · unfold strRow
    rw [new_get]
    match j, hj with
    | 0, _ => rfl
set_option maxRecDepth 100000 in
set_option maxHeartbeats 4000000 in
theorem listS {w : World} {r : Nat} {l : List Int} {wb : Bool} (h : RdAt w r l wb) :
    Calls Tryd.prog 50 #[.pointer (some ⟨r, 0, none⟩), .func (.func 49) #[.pointer (some ⟨r, 0, none⟩)] #[]] w fun e w' => ListPost okS encT (ElF 1 strRow) 9 1 r l wb w e w' := by
  have hrl := h.lt
  have HRL := hide hrl
  have H := hide h
  obtain ⟨i0, hi, hz0, hz1, hz2⟩ := info_parts infoCS
  clear h
  go_enter Tryd.func50, Tryd.ntmps50
  go_wp2_with fail
  refine (many_any (unhide H)).mono ?_
  rintro e w1 ⟨n, l1, wb1, rfl, hn, hr1, he1, hl1, hw1⟩
  have HM0 := hide (show LInv okS encT (ElF 1 strRow) 9 1 r l l1 wb1 w [] (.slice none 0 0) [] l1 wb1 w1 from LInv.start hr1 he1 hl1 (Flat.nil _ _))
  have hn2 : n ≤ 110000 := Nat.le_trans hn hr1.len
  have HW := hide hw1
  clear hr1 he1 hl1 hw1 hn
  go_wp2_with fail
  go_loopg [5, 8] n (fun gg v i wr => ∃ (k : Nat) (V : Value), k ≤ n ∧ gg = n - k ∧ i = .int .i64 k ∧ v = V ∧ Hid (∃ xs cells l2 wb2, xs.length = k ∧ LInv okS encT (ElF 1 strRow) 9 1 r l l1 wb1 w xs V cells l2 wb2 wr))
  case atStart => exact ⟨0, .slice none 0 0, Nat.zero_le _, rfl, rfl, rfl, [], [], l1, wb1, rfl, unhide HM0⟩
  case round =>
    obtain ⟨k, v, hk, rfl, rfl, rfl, HY⟩ := hrel
    obtain ⟨xs, cells, l2, wb2, rfl, hm⟩ := unhide HY
    have HM := hide hm
    have HR2 := hide hm.rd
    obtain ⟨g2, cap2, t2, hbk, _⟩ := hm.rd.blk
    have c1 : wr.cell? ⟨r, 1, none⟩ = some (.bool wb2) := hcell hbk 1
    clear hbk hm HY
    by_cases hlk : xs.length < n
    · have hk2 : (xs.length : Int) < (n : Int) := by omega
      cases wb2 with
      | true =>
        go_wp2_with fail
        go_ret
        exact (unhide HM).wrong
      | false =>
        go_wp2_with fail
        refine (rtext_got (unhide HR2)).mono ?_
        rintro e w3 ⟨x, l3, wb3, rfl, hok, hr3, he3, hl3, hw3⟩
        have HO := hide (owns_alloc (owns_ext (unhide HM).own he3 (unhide HRL)) (.cells #[.string x] 9))
        have HR3 := hide hr3
        have HE3 := hide he3
        have HL3 := hide hl3
        have HW3 := hide hw3
        have HOK := hide hok
        have hs3 : w.heap.size ≤ w3.heap.size := Nat.le_trans (unhide HM).ext.size he3.size
        clear hr3 he3 hl3 hw3 hok c1
        go_wp2_with (at_builtin; refine wpList_append_lies _ rfl _ _ _ rfl w.heap.size 9 i0 (.string ByteArray.empty) 1 16 Tryd.underlying52 hi hz0 hz1 hz2 rfl (by decide) _ xs.length cells rfl (unhide HO) ⟨w3.heap.size, 0, none⟩ 1 1 [.string x] rfl rfl (news_at rfl _ _) ?c2 (by decide) ?c3 ?c4 ?c5 (w3.heap.size + 1) ?c6 ?_)
        case c2 => first | exact onelistS x | exact ⟨rfl⟩ | rfl
        case c3 => unfold maxLen; omega
        case c4 => omega
        case c5 => first | omega | (simp; omega)
        try case c6 => simp
        intro g cap w5 hown hgrow hat hlt5
        have HM5 := hide ((unhide HM).snoc (unhide HRL) (unhide HOK) (unhide HR3) (unhide HE3) (unhide HL3) (fun q => ⟨rfl, ((unhide HW3) q).2⟩) hown hgrow (ElF.snoc (unhide HM).el (unhide HM).own.1 (rowlistS xs x).1 (rowlistS xs x).2))
        clear hown hgrow hat hlt5
        go_wp2_with fail
        go_roundg (n - (xs.length + 1))
        case measure => omega
        case rel => exact ⟨xs.length + 1, _, by omega, rfl, by go_num, rfl, _, _, l3, wb3, by simp, unhide HM5⟩
    · have hk2 : ¬ (xs.length : Int) < (n : Int) := by omega
      go_wp2_with fail
      go_ret
      exact (unhide HM).done (by omega) hn2 (unhide HW)

theorem onelistI (x : PI) : ∀ u ∈ ([.int .i64 x.op, .int .i64 x.a, .int .i64 x.b] : List Value), u.oneCell' = true := fun u hu => by
  simp at hu
  rcases hu with rfl | rfl | rfl <;> rfl
theorem rowlistI (xs : List PI) (x : PI) : (∀ i, i < xs.length → instrRow (xs ++ [x]) i = instrRow xs i) ∧ ∀ j, j < 3 → ([.int .i64 x.op, .int .i64 x.a, .int .i64 x.b] : List Value)[j]? = some (instrRow (xs ++ [x]) xs.length j) := by
  refine ⟨fun i hi => ?_, fun j hj => ?_⟩
  · funext j
    unfold instrRow
    rw [old_get hi]
  · unfold instrRow
    rw [new_get]
    match j, hj with
    | 0, _ => rfl
    | 1, _ => rfl
    | 2, _ => rfl
set_option maxRecDepth 100000 in
set_option maxHeartbeats 4000000 in
theorem listI {w : World} {r : Nat} {l : List Int} {wb : Bool} (h : RdAt w r l wb) {bx : Nat} (hx : w.cell? ⟨bx, 0, none⟩ = some (.pointer (some ⟨r, 0, none⟩))) (hbx : bx ≠ r) :
    Calls Tryd.prog 52 #[.pointer (some ⟨r, 0, none⟩), .func (.func 53) #[] #[.pointer (some ⟨bx, 0, none⟩)]] w fun e w' => ListPost okI encI (ElF 3 instrRow) 79 3 r l wb w e w' := by
  have hrl := h.lt
  have HRL := hide hrl
  have H := hide h
  have HX := hide hx
  have HBX := hide hbx
  clear hx hbx
  obtain ⟨i0, hi, hz0, hz1, hz2⟩ := info_parts infoCI
  clear h
  go_enter Tryd.func52, Tryd.ntmps52
  go_wp2_with fail
  refine (many_any (unhide H)).mono ?_
  rintro e w1 ⟨n, l1, wb1, rfl, hn, hr1, he1, hl1, hw1⟩
  have HM0 := hide (show LInv okI encI (ElF 3 instrRow) 79 3 r l l1 wb1 w [] (.slice none 0 0) [] l1 wb1 w1 from LInv.start hr1 he1 hl1 (Flat.nil _ _))
  have hn2 : n ≤ 110000 := Nat.le_trans hn hr1.len
  have HW := hide hw1
  clear hr1 he1 hl1 hw1 hn
  go_wp2_with fail
  go_loopg [5, 8] n (fun gg v i wr => ∃ (k : Nat) (V : Value), k ≤ n ∧ gg = n - k ∧ i = .int .i64 k ∧ v = V ∧ Hid (∃ xs cells l2 wb2, xs.length = k ∧ LInv okI encI (ElF 3 instrRow) 79 3 r l l1 wb1 w xs V cells l2 wb2 wr))
  case atStart => exact ⟨0, .slice none 0 0, Nat.zero_le _, rfl, rfl, rfl, [], [], l1, wb1, rfl, unhide HM0⟩
  case round =>
    obtain ⟨k, v, hk, rfl, rfl, rfl, HY⟩ := hrel
    obtain ⟨xs, cells, l2, wb2, rfl, hm⟩ := unhide HY
    have HM := hide hm
    have HR2 := hide hm.rd
    obtain ⟨g2, cap2, t2, hbk, _⟩ := hm.rd.blk
    have c1 : wr.cell? ⟨r, 1, none⟩ = some (.bool wb2) := hcell hbk 1
    clear hbk hm HY
    by_cases hlk : xs.length < n
    · have hk2 : (xs.length : Int) < (n : Int) := by omega
      cases wb2 with
      | true =>
        go_wp2_with fail
        go_ret
        exact (unhide HM).wrong
      | false =>
        go_wp2_with fail
        refine (instr_any (unhide HR2) ((unhide HM).ext.cell (unhide HX) (unhide HBX)) (unhide HBX)).mono ?_
        rintro e w3 ⟨x, l3, wb3, rfl, hok, hr3, he3, hl3, hw3⟩
        simp only [valI]
        have HO := hide (owns_alloc (owns_ext (unhide HM).own he3 (unhide HRL)) (.cells #[.int .i64 x.op, .int .i64 x.a, .int .i64 x.b] 79))
        have HR3 := hide hr3
        have HE3 := hide he3
        have HL3 := hide hl3
        have HW3 := hide hw3
        have HOK := hide hok
        have hs3 : w.heap.size ≤ w3.heap.size := Nat.le_trans (unhide HM).ext.size he3.size
        clear hr3 he3 hl3 hw3 hok c1
        go_wp2_with (at_builtin; refine wpList_append_lies _ rfl _ _ _ rfl w.heap.size 79 i0 (.agg #[.int .i64 0, .int .i64 0, .int .i64 0]) 3 24 Tryd.underlying47 hi hz0 hz1 hz2 rfl (by decide) _ xs.length cells rfl (unhide HO) ⟨w3.heap.size, 0, none⟩ 1 1 [.int .i64 x.op, .int .i64 x.a, .int .i64 x.b] rfl rfl (news_at rfl _ _) ?c2 (by decide) ?c3 ?c4 ?c5 (w3.heap.size + 1) ?c6 ?_)
        case c2 => first | exact onelistI x | exact ⟨rfl, rfl, rfl⟩ | rfl
        case c3 => unfold maxLen; omega
        case c4 => omega
        case c5 => first | omega | (simp; omega)
        try case c6 => simp
        intro g cap w5 hown hgrow hat hlt5
        have HM5 := hide ((unhide HM).snoc (unhide HRL) (unhide HOK) (unhide HR3) (unhide HE3) (unhide HL3) (fun q => ⟨rfl, ((unhide HW3) q).2⟩) hown hgrow (ElF.snoc (unhide HM).el (unhide HM).own.1 (rowlistI xs x).1 (rowlistI xs x).2))
        clear hown hgrow hat hlt5
        go_wp2_with fail
        go_roundg (n - (xs.length + 1))
        case measure => omega
        case rel => exact ⟨xs.length + 1, _, by omega, rfl, by go_num, rfl, _, _, l3, wb3, by simp, unhide HM5⟩
    · have hk2 : ¬ (xs.length : Int) < (n : Int) := by omega
      go_wp2_with fail
      go_ret
      exact (unhide HM).done (by omega) hn2 (unhide HW)

theorem onelistH (x : PH) : ∀ u ∈ ([.int .i64 x.fr, .int .i64 x.to, .int .i64 x.tg] : List Value), u.oneCell' = true := fun u hu => by
  simp at hu
  rcases hu with rfl | rfl | rfl <;> rfl
theorem rowlistH (xs : List PH) (x : PH) : (∀ i, i < xs.length → handRow (xs ++ [x]) i = handRow xs i) ∧ ∀ j, j < 3 → ([.int .i64 x.fr, .int .i64 x.to, .int .i64 x.tg] : List Value)[j]? = some (handRow (xs ++ [x]) xs.length j) := by
  refine ⟨fun i hi => ?_, fun j hj => ?_⟩
  · funext j
    unfold handRow
    rw [old_get hi]
  · unfold handRow
    rw [new_get]
    match j, hj with
    | 0, _ => rfl
    | 1, _ => rfl
    | 2, _ => rfl
set_option maxRecDepth 100000 in
set_option maxHeartbeats 4000000 in
theorem listH {w : World} {r : Nat} {l : List Int} {wb : Bool} (h : RdAt w r l wb) {bx : Nat} (hx : w.cell? ⟨bx, 0, none⟩ = some (.pointer (some ⟨r, 0, none⟩))) (hbx : bx ≠ r) :
    Calls Tryd.prog 54 #[.pointer (some ⟨r, 0, none⟩), .func (.func 55) #[] #[.pointer (some ⟨bx, 0, none⟩)]] w fun e w' => ListPost okH encH (ElF 3 handRow) 82 3 r l wb w e w' := by
  have hrl := h.lt
  have HRL := hide hrl
  have H := hide h
  have HX := hide hx
  have HBX := hide hbx
  clear hx hbx
  obtain ⟨i0, hi, hz0, hz1, hz2⟩ := info_parts infoCH
  clear h
  go_enter Tryd.func54, Tryd.ntmps54
  go_wp2_with fail
  refine (many_any (unhide H)).mono ?_
  rintro e w1 ⟨n, l1, wb1, rfl, hn, hr1, he1, hl1, hw1⟩
  have HM0 := hide (show LInv okH encH (ElF 3 handRow) 82 3 r l l1 wb1 w [] (.slice none 0 0) [] l1 wb1 w1 from LInv.start hr1 he1 hl1 (Flat.nil _ _))
  have hn2 : n ≤ 110000 := Nat.le_trans hn hr1.len
  have HW := hide hw1
  clear hr1 he1 hl1 hw1 hn
  go_wp2_with fail
  go_loopg [5, 8] n (fun gg v i wr => ∃ (k : Nat) (V : Value), k ≤ n ∧ gg = n - k ∧ i = .int .i64 k ∧ v = V ∧ Hid (∃ xs cells l2 wb2, xs.length = k ∧ LInv okH encH (ElF 3 handRow) 82 3 r l l1 wb1 w xs V cells l2 wb2 wr))
  case atStart => exact ⟨0, .slice none 0 0, Nat.zero_le _, rfl, rfl, rfl, [], [], l1, wb1, rfl, unhide HM0⟩
  case round =>
    obtain ⟨k, v, hk, rfl, rfl, rfl, HY⟩ := hrel
    obtain ⟨xs, cells, l2, wb2, rfl, hm⟩ := unhide HY
    have HM := hide hm
    have HR2 := hide hm.rd
    obtain ⟨g2, cap2, t2, hbk, _⟩ := hm.rd.blk
    have c1 : wr.cell? ⟨r, 1, none⟩ = some (.bool wb2) := hcell hbk 1
    clear hbk hm HY
    by_cases hlk : xs.length < n
    · have hk2 : (xs.length : Int) < (n : Int) := by omega
      cases wb2 with
      | true =>
        go_wp2_with fail
        go_ret
        exact (unhide HM).wrong
      | false =>
        go_wp2_with fail
        refine (hand_any (unhide HR2) ((unhide HM).ext.cell (unhide HX) (unhide HBX)) (unhide HBX)).mono ?_
        rintro e w3 ⟨x, l3, wb3, rfl, hok, hr3, he3, hl3, hw3⟩
        simp only [valH]
        have HO := hide (owns_alloc (owns_ext (unhide HM).own he3 (unhide HRL)) (.cells #[.int .i64 x.fr, .int .i64 x.to, .int .i64 x.tg] 82))
        have HR3 := hide hr3
        have HE3 := hide he3
        have HL3 := hide hl3
        have HW3 := hide hw3
        have HOK := hide hok
        have hs3 : w.heap.size ≤ w3.heap.size := Nat.le_trans (unhide HM).ext.size he3.size
        clear hr3 he3 hl3 hw3 hok c1
        go_wp2_with (at_builtin; refine wpList_append_lies _ rfl _ _ _ rfl w.heap.size 82 i0 (.agg #[.int .i64 0, .int .i64 0, .int .i64 0]) 3 24 Tryd.underlying48 hi hz0 hz1 hz2 rfl (by decide) _ xs.length cells rfl (unhide HO) ⟨w3.heap.size, 0, none⟩ 1 1 [.int .i64 x.fr, .int .i64 x.to, .int .i64 x.tg] rfl rfl (news_at rfl _ _) ?c2 (by decide) ?c3 ?c4 ?c5 (w3.heap.size + 1) ?c6 ?_)
        case c2 => first | exact onelistH x | exact ⟨rfl, rfl, rfl⟩ | rfl
        case c3 => unfold maxLen; omega
        case c4 => omega
        case c5 => first | omega | (simp; omega)
        try case c6 => simp
        intro g cap w5 hown hgrow hat hlt5
        have HM5 := hide ((unhide HM).snoc (unhide HRL) (unhide HOK) (unhide HR3) (unhide HE3) (unhide HL3) (fun q => ⟨rfl, ((unhide HW3) q).2⟩) hown hgrow (ElF.snoc (unhide HM).el (unhide HM).own.1 (rowlistH xs x).1 (rowlistH xs x).2))
        clear hown hgrow hat hlt5
        go_wp2_with fail
        go_roundg (n - (xs.length + 1))
        case measure => omega
        case rel => exact ⟨xs.length + 1, _, by omega, rfl, by go_num, rfl, _, _, l3, wb3, by simp, unhide HM5⟩
    · have hk2 : ¬ (xs.length : Int) < (n : Int) := by omega
      go_wp2_with fail
      go_ret
      exact (unhide HM).done (by omega) hn2 (unhide HW)

theorem onelistV (x : PV) : ∀ u ∈ ([.string x.name, .int .i64 x.slot, .int .i64 x.fr, .int .i64 x.to, .bool x.boxed] : List Value), u.oneCell' = true := fun u hu => by
  simp at hu
  rcases hu with rfl | rfl | rfl | rfl | rfl <;> rfl
theorem rowlistV (xs : List PV) (x : PV) : (∀ i, i < xs.length → varRow (xs ++ [x]) i = varRow xs i) ∧ ∀ j, j < 5 → ([.string x.name, .int .i64 x.slot, .int .i64 x.fr, .int .i64 x.to, .bool x.boxed] : List Value)[j]? = some (varRow (xs ++ [x]) xs.length j) := by
  refine ⟨fun i hi => ?_, fun j hj => ?_⟩
  · funext j
    unfold varRow
    rw [old_get hi]
  · unfold varRow
    rw [new_get]
    match j, hj with
    | 0, _ => rfl
    | 1, _ => rfl
    | 2, _ => rfl
    | 3, _ => rfl
    | 4, _ => rfl
set_option maxRecDepth 100000 in
set_option maxHeartbeats 4000000 in
theorem listV {w : World} {r : Nat} {l : List Int} {wb : Bool} (h : RdAt w r l wb) {bx : Nat} (hx : w.cell? ⟨bx, 0, none⟩ = some (.pointer (some ⟨r, 0, none⟩))) (hbx : bx ≠ r) :
    Calls Tryd.prog 56 #[.pointer (some ⟨r, 0, none⟩), .func (.func 57) #[] #[.pointer (some ⟨bx, 0, none⟩)]] w fun e w' => ListPost okV encV (ElF 5 varRow) 85 5 r l wb w e w' := by
  have hrl := h.lt
  have HRL := hide hrl
  have H := hide h
  have HX := hide hx
  have HBX := hide hbx
  clear hx hbx
  obtain ⟨i0, hi, hz0, hz1, hz2⟩ := info_parts infoCV
  clear h
  go_enter Tryd.func56, Tryd.ntmps56
  go_wp2_with fail
  refine (many_any (unhide H)).mono ?_
  rintro e w1 ⟨n, l1, wb1, rfl, hn, hr1, he1, hl1, hw1⟩
  have HM0 := hide (show LInv okV encV (ElF 5 varRow) 85 5 r l l1 wb1 w [] (.slice none 0 0) [] l1 wb1 w1 from LInv.start hr1 he1 hl1 (Flat.nil _ _))
  have hn2 : n ≤ 110000 := Nat.le_trans hn hr1.len
  have HW := hide hw1
  clear hr1 he1 hl1 hw1 hn
  go_wp2_with fail
  go_loopg [5, 8] n (fun gg v i wr => ∃ (k : Nat) (V : Value), k ≤ n ∧ gg = n - k ∧ i = .int .i64 k ∧ v = V ∧ Hid (∃ xs cells l2 wb2, xs.length = k ∧ LInv okV encV (ElF 5 varRow) 85 5 r l l1 wb1 w xs V cells l2 wb2 wr))
  case atStart => exact ⟨0, .slice none 0 0, Nat.zero_le _, rfl, rfl, rfl, [], [], l1, wb1, rfl, unhide HM0⟩
  case round =>
    obtain ⟨k, v, hk, rfl, rfl, rfl, HY⟩ := hrel
    obtain ⟨xs, cells, l2, wb2, rfl, hm⟩ := unhide HY
    have HM := hide hm
    have HR2 := hide hm.rd
    obtain ⟨g2, cap2, t2, hbk, _⟩ := hm.rd.blk
    have c1 : wr.cell? ⟨r, 1, none⟩ = some (.bool wb2) := hcell hbk 1
    clear hbk hm HY
    by_cases hlk : xs.length < n
    · have hk2 : (xs.length : Int) < (n : Int) := by omega
      cases wb2 with
      | true =>
        go_wp2_with fail
        go_ret
        exact (unhide HM).wrong
      | false =>
        go_wp2_with fail
        refine (var_any (unhide HR2) ((unhide HM).ext.cell (unhide HX) (unhide HBX)) (unhide HBX)).mono ?_
        rintro e w3 ⟨x, l3, wb3, rfl, hok, hr3, he3, hl3, hw3⟩
        simp only [valV]
        have HO := hide (owns_alloc (owns_ext (unhide HM).own he3 (unhide HRL)) (.cells #[.string x.name, .int .i64 x.slot, .int .i64 x.fr, .int .i64 x.to, .bool x.boxed] 85))
        have HR3 := hide hr3
        have HE3 := hide he3
        have HL3 := hide hl3
        have HW3 := hide hw3
        have HOK := hide hok
        have hs3 : w.heap.size ≤ w3.heap.size := Nat.le_trans (unhide HM).ext.size he3.size
        clear hr3 he3 hl3 hw3 hok c1
        go_wp2_with (at_builtin; refine wpList_append_lies _ rfl _ _ _ rfl w.heap.size 85 i0 (.agg #[.string ByteArray.empty, .int .i64 0, .int .i64 0, .int .i64 0, .bool false]) 5 48 Tryd.underlying49 hi hz0 hz1 hz2 rfl (by decide) _ xs.length cells rfl (unhide HO) ⟨w3.heap.size, 0, none⟩ 1 1 [.string x.name, .int .i64 x.slot, .int .i64 x.fr, .int .i64 x.to, .bool x.boxed] rfl rfl (news_at rfl _ _) ?c2 (by decide) ?c3 ?c4 ?c5 (w3.heap.size + 1) ?c6 ?_)
        case c2 => first | exact onelistV x | exact ⟨rfl, rfl, rfl, rfl, rfl⟩ | rfl
        case c3 => unfold maxLen; omega
        case c4 => omega
        case c5 => first | omega | (simp; omega)
        try case c6 => simp
        intro g cap w5 hown hgrow hat hlt5
        have HM5 := hide ((unhide HM).snoc (unhide HRL) (unhide HOK) (unhide HR3) (unhide HE3) (unhide HL3) (fun q => ⟨rfl, ((unhide HW3) q).2⟩) hown hgrow (ElF.snoc (unhide HM).el (unhide HM).own.1 (rowlistV xs x).1 (rowlistV xs x).2))
        clear hown hgrow hat hlt5
        go_wp2_with fail
        go_roundg (n - (xs.length + 1))
        case measure => omega
        case rel => exact ⟨xs.length + 1, _, by omega, rfl, by go_num, rfl, _, _, l3, wb3, by simp, unhide HM5⟩
    · have hk2 : ¬ (xs.length : Int) < (n : Int) := by omega
      go_wp2_with fail
      go_ret
      exact (unhide HM).done (by omega) hn2 (unhide HW)
end Go.Proofs.YtkafldkhmkdafaaDoor
