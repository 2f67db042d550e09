/-
  The writer: numbers and texts.
  The writer: texts.
-/
import Derived.Test.YtndgajlidckcdaaGreatDoorB26
import Derived.Lib.AppendIntMem
import Derived.Lib.ItoaWalk
namespace Go.Proofs.YtndgajlidckcdaaGreatDoor
open Go.RowKit Go.Sort
set_option linter.unusedVariables false
set_option linter.unusedSimpArgs false

set_option maxRecDepth 100000 in
set_option maxHeartbeats 4000000 in
theorem format_in (u : Nat) (hu64 : u < 18446744073709551616) (w : World) (htab : Lib.TabIs Tryz.prog w "internal/strconv.uint64pow10" .u64 Lib.pow10Tab) :
    Calls Tryz.prog 194 #[.int .u64 u, .int .i64 10] w fun e w' => e = .returned (.string ⟨(Lib.decDigits u).toArray⟩) ∧ Add w w' := by
  by_cases h : u < 100
  · have h1 : (u : Int) < 100 := by omega
    have hb : decide ((u : Int) < 100) = true := by simp; omega
    have HS := hide (Tryz.internal_strconv_small u h w)
    go_enter Tryz.func194, Tryz.ntmps194
    go_wp2_with fail
    refine (unhide HS).mono ?_
    rintro e w1 ⟨rfl, rfl⟩
    go_wp2_with fail
    go_ret
    exact ⟨rfl, Add.refl _⟩
  · have hu1 : 1 ≤ u := by omega
    have hnd20 : Lib.nDigits u ≤ 20 := by have := Lib.numDigits_eq u hu1 hu64; split at this <;> omega
    have hal : Tryz.prog.arrayLen 249 = 24 := by simp [Program.arrayLen, Tryz.underlying249]
    have hsl : ∀ W, (Instr.sliceAt 249 (.pointer (some ⟨w.heap.size, 0, none⟩)) none (some (.int .i64 (Lib.nDigits u : Int))) none).run Tryz.prog W = .ok (.slice (some ⟨w.heap.size, 0, none⟩) (Lib.nDigits u) 24) W := fun W => by
      rw [run_sliceAt_array_h W 249 ⟨w.heap.size, 0, none⟩ (by simp [Program.arrayLen, Program.elem, Tryz.underlying249]) .i64 (Lib.nDigits u : Int) (by omega) (by rw [hal]; omega)]
      go_simp
    have hH0 := Lib.holds_zero0 w 249 (Lib.nDigits u) (by omega)
    have hfmt := Tryz.internal_strconv_formatBase10 w.heap.size 0 24 u (Array.replicate (Lib.nDigits u) 0) (w.alloc (.cells Lib.zeros24 249)) hH0 (by rw [Array.size_replicate]; exact Lib.lt_pow_nDigits u) hu64 (by rw [Array.size_replicate]; omega)
    rw [Array.size_replicate] at hfmt
    have HH0 := hide hH0
    have HFM := hide hfmt
    have HND := hide fun w1 ht => Tryz.internal_strconv_numDigits u hu1 hu64 w1 ht
    have HTB := hide (Lib.tabIs_alloc htab (.cells Lib.zeros24 249))
    have iu : (100 : Int) ≤ (u : Int) := by omega
    clear hH0 hal hfmt htab
    go_enter Tryz.func194, Tryz.ntmps194
    go_wp2_with fail
    refine (unhide HND _ (unhide HTB)).mono ?_
    rintro e w1 ⟨rfl, rfl⟩
    go_wp2_with fail
    refine (unhide HFM).mono ?_
    rintro e w' ⟨rfl, k, v', dk, rfl, hF⟩
    have hcv : (convert 136 9 (.slice (some ⟨w.heap.size, 0, none⟩) (Lib.nDigits u) 24)).run Tryz.prog ((putRow (fun (b : UInt8) => Value.int .u8 (b.toNat : Int)) (w.alloc (.cells Lib.zeros24 249)) w.heap.size 0 dk).drewN k) = .ok (.string ⟨(Lib.decDigits u).toArray⟩) ((putRow (fun (b : UInt8) => Value.int .u8 (b.toNat : Int)) (w.alloc (.cells Lib.zeros24 249)) w.heap.size 0 dk).drewN k) := by
      have h := run_convert_bytes_back (P := Tryz.prog) ((putRow (fun (b : UInt8) => Value.int .u8 (b.toNat : Int)) (w.alloc (.cells Lib.zeros24 249)) w.heap.size 0 dk).drewN k) 136 9 5 ⟨w.heap.size, 0, none⟩ 24 (Lib.decDigits u) Tryz.underlying136 Tryz.underlying5 Tryz.underlying9 (fun j hj => by
        rw [Lib.row_is_numeral hF j hj, Lib.add_plain, World.cell?_drewN]
        exact cell?_putRow (fun (b : UInt8) => Value.int .u8 (b.toNat : Int)) _ w.heap.size 0 _ dk (unhide HH0) (by rw [hF.size, Array.size_replicate]) j (by rw [hF.size]; rw [Lib.decDigits_length] at hj; exact hj))
      rw [Lib.decDigits_length] at h
      exact h
    have HAD : Hid (Add w ((putRow (fun (b : UInt8) => Value.int .u8 (b.toNat : Int)) (w.alloc (.cells Lib.zeros24 249)) w.heap.size 0 dk).drewN k)) := by
      obtain ⟨os, eo⟩ := Lib.fin_at w (.cells Lib.zeros24 249) dk k 0
      rw [eo]
      exact add_of_below (Lib.below_grow w.heap.size w (Nat.le_refl _) k os) (Nat.le_refl _)
    clear HH0 HFM HND HTB
    go_wp2_with fail
    go_ret
    exact ⟨rfl, unhide HAD⟩
set_option maxRecDepth 100000 in
set_option maxHeartbeats 1000000 in
theorem format_any (n : Nat) (h : n < 18446744073709551616) (w : World) (htab : Lib.TabIs Tryz.prog w "internal/strconv.uint64pow10" .u64 Lib.pow10Tab) :
    Calls Tryz.prog 139 #[.int .u64 n, .int .i64 10] w fun e w' => e = .returned (.string ⟨(Lib.decDigits n).toArray⟩) ∧ Add w w' := by
  have HS := hide (format_in n h w htab)
  clear htab
  go_enter Tryz.func139, Tryz.ntmps139
  go_wp2_with fail
  refine (unhide HS).mono ?_
  rintro e w1 ⟨rfl, ha⟩
  have HA := hide ha
  clear ha
  go_wp2_with fail
  go_ret
  exact ⟨rfl, unhide HA⟩
end Go.Proofs.YtndgajlidckcdaaGreatDoor

namespace Go.Proofs.YtndgajlidckcdaaGreatDoor
open Go.RowKit
set_option linter.unusedVariables false
set_option linter.unusedSimpArgs false

def byteX (l : List UInt8) : List Value := l.map fun b => Value.int .u8 b.toNat
theorem byteX_app (a b : List UInt8) : byteX (a ++ b) = byteX a ++ byteX b := List.map_append ..
def qP (s : ByteArray) (i : Nat) : List UInt8 := [34] ++ (s.data.toList.take i).flatMap escL
theorem qP_next {s : ByteArray} {i : Nat} (h : i < s.size) : qP s (i + 1) = qP s i ++ escL (UInt8.ofNat (byteAt s i)) := by
  have h2 : i < s.data.toList.length := by rw [dlen]; exact h
  unfold qP
  rw [List.take_succ_eq_append_getElem h2, List.flatMap_append, List.append_assoc]
  simp only [List.flatMap_cons, List.flatMap_nil, List.append_nil]
  rw [show s.data.toList[i] = UInt8.ofNat (byteAt s i) by rw [← byteAt_eq h]; exact (UInt8.ofNat_toNat).symm]
theorem qP_len (s : ByteArray) (i : Nat) : (qP s i).length ≤ 2 * i + 1 := by
  unfold qP
  have : ∀ l : List UInt8, (l.flatMap escL).length ≤ 2 * l.length := by
    intro l
    induction l with
    | nil => exact Nat.zero_le _
    | cons a l ih =>
      have h1 : (escL a).length ≤ 2 := by
        unfold escL
        split
        · exact Nat.le_refl _
        · split
          · exact Nat.le_refl _
          · exact Nat.le_succ 1
      rw [List.flatMap_cons, List.length_append, List.length_cons]
      omega
  have h1 := this (s.data.toList.take i)
  have h2 := List.length_take_le i s.data.toList
  rw [List.length_append, List.length_cons, List.length_nil]
  omega
theorem own_grow_add {w W w3 : World} {v : Value} {e : TypeId} {size n : Nat} {xs : List Value} {o : Obj} (ha : Add w W) (hown : W.ownsRow w.heap.size e size v n xs) (hg : (W.alloc o).grownBy w3 v.ownBlock) : Add w w3 := by
  have hrow : ∀ j, v.ownBlock = some j → w.heap.size ≤ j := by
    intro j hj
    rcases hown.2 with ⟨rfl, _⟩ | ⟨g, cap, cur, rfl, h2, _⟩
    · simp [Value.ownBlock] at hj
    · simp only [Value.ownBlock, Option.some.injEq] at hj
      omega
  have hsz := ha.size
  refine ⟨hg.os.trans ha.os, hg.tape.trans ha.tape, hg.output.trans ha.output, by have := hg.size; simp at this; omega, fun k hk => ?_⟩
  rw [hg.block k (by simp; omega) (fun e => by have := hrow k e.symm; omega), hold _ _ (by omega), ha.block k hk]
theorem own_bytes {w : World} {base g cap : Nat} {l : List UInt8} (h : w.ownsRow base 5 1 (.slice (some ⟨g, 0, none⟩) l.length cap) l.length (byteX l)) : (convert 136 9 (.slice (some ⟨g, 0, none⟩) l.length cap)).run Tryz.prog w = .ok (.string ⟨l.toArray⟩) w := by
  rcases h.2 with ⟨h0, _⟩ | ⟨g', cap', cur, h0, hb, hg, h1, h2, h3, h4⟩
  · cases h0
  · cases h0
    refine run_convert_bytes_back (P := Tryz.prog) w 136 9 5 ⟨g, 0, none⟩ cap l Tryz.underlying136 Tryz.underlying5 Tryz.underlying9 (fun j hj => ?_)
    rw [Lib.add_plain]
    show w.cell? ⟨g, 0 + j, none⟩ = _
    rw [Nat.zero_add, hcell hg j]
    have q : (cur.toList.take (l.length * 1))[j]? = some (.int .u8 l[j].toNat) := by rw [h4]; unfold byteX; rw [List.getElem?_map, List.getElem?_eq_getElem hj]; rfl
    rw [List.getElem?_take_of_lt (by omega)] at q
    rw [← Array.getElem?_toList, q]
set_option maxRecDepth 100000 in
set_option maxHeartbeats 8000000 in
theorem quoted_any (s : ByteArray) (hs : s.size ≤ 300) (w : World) : Calls Tryz.prog 263 #[.string s] w fun e w' => e = .returned (.string (xStr s)) ∧ Add w w' := by
  obtain ⟨i0, hi0, hz0, hz1, hz2⟩ := info_parts infoByte
  have HQL := hide (qP_len s)
  have HXS := hide (show xStr s = ⟨(qP s s.size ++ [34]).toArray⟩ by unfold xStr qP; rw [List.take_of_length_le (by rw [dlen]; exact Nat.le_refl _)])
  go_enter Tryz.func263, Tryz.ntmps263
  go_wp2_with fail
  go_loopg [3, 9] s.size (fun gg bv iv wr => ∃ i : Nat, i ≤ s.size ∧ gg = s.size - i ∧ iv = .int .i64 i ∧ Hid (Add w wr) ∧ Hid (wr.ownsRow w.heap.size 5 1 bv (qP s i).length (byteX (qP s i))))
  case atStart => exact ⟨0, Nat.zero_le _, rfl, rfl, (Add.refl w).alloc _, ⟨rfl, Or.inr ⟨w.heap.size, 1, _, rfl, Nat.le_refl _, hnew w _, Nat.le_refl _, by decide, rfl, rfl⟩⟩⟩
  case round =>
    obtain ⟨i, hi, rfl, rfl, HA, HO⟩ := hrel
    have hql := unhide HQL i
    by_cases hlt : i < s.size
    · have hlt3 : (i : Int) < (s.size : Int) := by omega
      have hb := byteAt_eq hlt
      have h256 := byteAt_lt s i
      have hnx := qP_next hlt
      by_cases h10 : byteAt s i = 10
      · have o10 : ((s[i].toNat : Nat) : Int) = 10 := by rw [hb, h10]; rfl
        rw [h10] at hnx
        have HQ := hide (show qP s (i + 1) = qP s i ++ [92, 110] from hnx)
        have HOA := hide ((unhide HO).alloc (.cells #[.int .u8 92, .int .u8 110] 5))
        clear hnx hb h10
        go_wp2_with (at_builtin; refine wpList_append_lies _ rfl _ _ _ rfl w.heap.size 5 i0 (.int .u8 0) 1 1 Tryz.underlying136 hi0 hz0 hz1 hz2 rfl (by decide) _ (qP s i).length (byteX (qP s i)) rfl (unhide HOA) ⟨wr.heap.size, 0, none⟩ 2 2 [.int .u8 92, .int .u8 110] rfl rfl (World.news_of_block (hnew _ _)) ?a2 (by decide) ?a3 ?a4 ?a5 (wr.heap.size + 1) ?a6 ?_)
        case a2 => first | rfl | (intro u hu; simp at hu; first | (subst hu; rfl) | (rcases hu with rfl | rfl <;> rfl))
        case a3 => unfold maxLen; omega
        case a4 => omega
        case a5 => have := (unhide HA).size; simp; omega
        try case a6 => simp
        intro g2 cap2 w3 hown hgrow hat2 hlt2
        have HA3 := hide (own_grow_add (unhide HA) (unhide HO) hgrow)
        have HO3 : Hid (w3.ownsRow w.heap.size 5 1 (.slice (some ⟨g2, 0, none⟩) (qP s (i + 1)).length cap2) (qP s (i + 1)).length (byteX (qP s (i + 1)))) := by
          rw [unhide HQ, byteX_app, List.length_append]
          exact hown
        have hq1 := unhide HQL (i + 1)
        have HLL := hide (show (qP s i).length + 2 = (qP s (i + 1)).length by rw [unhide HQ, List.length_append]; rfl)
        clear hown hgrow hat2 hlt2 HOA
        rw [unhide HLL]
        go_wp2_with fail
        go_roundg (s.size - (i + 1))
        case measure => omega
        case rel => exact ⟨i + 1, by omega, rfl, by go_num, HA3, HO3⟩
      · by_cases h34 : byteAt s i = 34
        · have o34 : ((s[i].toNat : Nat) : Int) = 34 := by rw [hb, h34]; rfl
          rw [h34] at hnx
          have HQ := hide (show qP s (i + 1) = qP s i ++ [92, 34] from hnx)
          have HOA := hide ((unhide HO).alloc (.cells #[.int .u8 92, .int .u8 34] 5))
          clear hnx hb h34 h10
          go_wp2_with (at_builtin; refine wpList_append_lies _ rfl _ _ _ rfl w.heap.size 5 i0 (.int .u8 0) 1 1 Tryz.underlying136 hi0 hz0 hz1 hz2 rfl (by decide) _ (qP s i).length (byteX (qP s i)) rfl (unhide HOA) ⟨wr.heap.size, 0, none⟩ 2 2 [.int .u8 92, .int .u8 34] rfl rfl (World.news_of_block (hnew _ _)) ?b2 (by decide) ?b3 ?b4 ?b5 (wr.heap.size + 1) ?b6 ?_)
          case b2 => first | rfl | (intro u hu; simp at hu; first | (subst hu; rfl) | (rcases hu with rfl | rfl <;> rfl))
          case b3 => unfold maxLen; omega
          case b4 => omega
          case b5 => have := (unhide HA).size; simp; omega
          try case b6 => simp
          intro g2 cap2 w3 hown hgrow hat2 hlt2
          have HA3 := hide (own_grow_add (unhide HA) (unhide HO) hgrow)
          have HO3 : Hid (w3.ownsRow w.heap.size 5 1 (.slice (some ⟨g2, 0, none⟩) (qP s (i + 1)).length cap2) (qP s (i + 1)).length (byteX (qP s (i + 1)))) := by
            rw [unhide HQ, byteX_app, List.length_append]
            exact hown
          have hq1 := unhide HQL (i + 1)
          have HLL := hide (show (qP s i).length + 2 = (qP s (i + 1)).length by rw [unhide HQ, List.length_append]; rfl)
          clear hown hgrow hat2 hlt2 HOA
          rw [unhide HLL]
          go_wp2_with fail
          go_roundg (s.size - (i + 1))
          case measure => omega
          case rel => exact ⟨i + 1, by omega, rfl, by go_num, HA3, HO3⟩
        · by_cases h92 : byteAt s i = 92
          · have o92 : ((s[i].toNat : Nat) : Int) = 92 := by rw [hb, h92]; rfl
            rw [h92] at hnx
            have HQ := hide (show qP s (i + 1) = qP s i ++ [92, 92] from hnx)
            have HOA := hide ((unhide HO).alloc (.cells #[.int .u8 92, .int .u8 92] 5))
            clear hnx hb h92 h34 h10
            go_wp2_with (at_builtin; refine wpList_append_lies _ rfl _ _ _ rfl w.heap.size 5 i0 (.int .u8 0) 1 1 Tryz.underlying136 hi0 hz0 hz1 hz2 rfl (by decide) _ (qP s i).length (byteX (qP s i)) rfl (unhide HOA) ⟨wr.heap.size, 0, none⟩ 2 2 [.int .u8 92, .int .u8 92] rfl rfl (World.news_of_block (hnew _ _)) ?c2 (by decide) ?c3 ?c4 ?c5 (wr.heap.size + 1) ?c6 ?_)
            case c2 => first | rfl | (intro u hu; simp at hu; first | (subst hu; rfl) | (rcases hu with rfl | rfl <;> rfl))
            case c3 => unfold maxLen; omega
            case c4 => omega
            case c5 => have := (unhide HA).size; simp; omega
            try case c6 => simp
            intro g2 cap2 w3 hown hgrow hat2 hlt2
            have HA3 := hide (own_grow_add (unhide HA) (unhide HO) hgrow)
            have HO3 : Hid (w3.ownsRow w.heap.size 5 1 (.slice (some ⟨g2, 0, none⟩) (qP s (i + 1)).length cap2) (qP s (i + 1)).length (byteX (qP s (i + 1)))) := by
              rw [unhide HQ, byteX_app, List.length_append]
              exact hown
            have hq1 := unhide HQL (i + 1)
            have HLL := hide (show (qP s i).length + 2 = (qP s (i + 1)).length by rw [unhide HQ, List.length_append]; rfl)
            clear hown hgrow hat2 hlt2 HOA
            rw [unhide HLL]
            go_wp2_with fail
            go_roundg (s.size - (i + 1))
            case measure => omega
            case rel => exact ⟨i + 1, by omega, rfl, by go_num, HA3, HO3⟩
          · have o10 : ¬ ((s[i].toNat : Nat) : Int) = 10 := by rw [hb]; omega
            have o34 : ¬ ((s[i].toNat : Nat) : Int) = 34 := by rw [hb]; omega
            have o92 : ¬ ((s[i].toNat : Nat) : Int) = 92 := by rw [hb]; omega
            have m10 : (((s[i].toNat : Nat) : Int) == 10) = false := by simpa using o10
            have m34 : (((s[i].toNat : Nat) : Int) == 34) = false := by simpa using o34
            have m92 : (((s[i].toNat : Nat) : Int) == 92) = false := by simpa using o92
            have HQ : Hid (qP s (i + 1) = qP s i ++ [s[i]]) := by
              show qP s (i + 1) = _
              have e1 : UInt8.ofNat (byteAt s i) = s[i] := by rw [← hb]; exact UInt8.ofNat_toNat
              have n10 : ¬ s[i] = 10 := fun e => h10 (by rw [← hb, e]; rfl)
              have n34 : ¬ (s[i] = 34 ∨ s[i] = 92) := fun e => by
                rcases e with e | e
                · exact h34 (by rw [← hb, e]; rfl)
                · exact h92 (by rw [← hb, e]; rfl)
              rw [hnx, e1]
              unfold escL
              rw [if_neg n10, if_neg n34]
            have HOA := hide ((unhide HO).alloc (.cells #[.int .u8 (s[i].toNat : Int)] 5))
            clear hnx hb h92 h34 h10
            go_wp2_with (at_builtin; refine wpList_append_lies _ rfl _ _ _ rfl w.heap.size 5 i0 (.int .u8 0) 1 1 Tryz.underlying136 hi0 hz0 hz1 hz2 rfl (by decide) _ (qP s i).length (byteX (qP s i)) rfl (unhide HOA) ⟨wr.heap.size, 0, none⟩ 1 1 [.int .u8 (s[i].toNat : Int)] rfl rfl (World.news_of_block (hnew _ _)) ?d2 (by decide) ?d3 ?d4 ?d5 (wr.heap.size + 1) ?d6 ?_)
            case d2 => first | rfl | (intro u hu; simp at hu; first | (subst hu; rfl) | (rcases hu with rfl | rfl <;> rfl))
            case d3 => unfold maxLen; omega
            case d4 => omega
            case d5 => have := (unhide HA).size; simp; omega
            try case d6 => simp
            intro g2 cap2 w3 hown hgrow hat2 hlt2
            have HA3 := hide (own_grow_add (unhide HA) (unhide HO) hgrow)
            have HO3 : Hid (w3.ownsRow w.heap.size 5 1 (.slice (some ⟨g2, 0, none⟩) (qP s (i + 1)).length cap2) (qP s (i + 1)).length (byteX (qP s (i + 1)))) := by
              rw [unhide HQ, byteX_app, List.length_append]
              exact hown
            have hq1 := unhide HQL (i + 1)
            have HLL := hide (show (qP s i).length + 1 = (qP s (i + 1)).length by rw [unhide HQ, List.length_append]; rfl)
            clear hown hgrow hat2 hlt2 HOA
            rw [unhide HLL]
            go_wp2_with fail
            go_roundg (s.size - (i + 1))
            case measure => omega
            case rel => exact ⟨i + 1, by omega, rfl, by go_num, HA3, HO3⟩
    · obtain rfl : i = s.size := by omega
      have hlt3 : ¬ ((s.size : Int) < (s.size : Int)) := by omega
      have HOA := hide ((unhide HO).alloc (.cells #[.int .u8 34] 5))
      go_wp2_with (at_builtin; refine wpList_append_lies _ rfl _ _ _ rfl w.heap.size 5 i0 (.int .u8 0) 1 1 Tryz.underlying136 hi0 hz0 hz1 hz2 rfl (by decide) _ (qP s s.size).length (byteX (qP s s.size)) rfl (unhide HOA) ⟨wr.heap.size, 0, none⟩ 1 1 [.int .u8 34] rfl rfl (World.news_of_block (hnew _ _)) ?e2 (by decide) ?e3 ?e4 ?e5 (wr.heap.size + 1) ?e6 ?_)
      case e2 => first | rfl | (intro u hu; simp at hu; first | (subst hu; rfl) | (rcases hu with rfl | rfl <;> rfl))
      case e3 => unfold maxLen; omega
      case e4 => omega
      case e5 => have := (unhide HA).size; simp; omega
      try case e6 => simp
      intro g2 cap2 w3 hown hgrow hat2 hlt2
      have HA3 := hide (own_grow_add (unhide HA) (unhide HO) hgrow)
      have hcv : (convert 136 9 (.slice (some ⟨g2, 0, none⟩) ((qP s s.size).length + 1) cap2)).run Tryz.prog w3 = .ok (.string (xStr s)) w3 := by
        rw [unhide HXS]
        have := own_bytes (l := qP s s.size ++ [34]) (base := w.heap.size) (g := g2) (cap := cap2) (w := w3) (by rw [byteX_app, List.length_append]; exact hown)
        rw [List.length_append] at this
        exact this
      clear hown hgrow hat2 hlt2 HOA
      go_wp2_with fail
      go_ret
      exact ⟨rfl, unhide HA3⟩
end Go.Proofs.YtndgajlidckcdaaGreatDoor
