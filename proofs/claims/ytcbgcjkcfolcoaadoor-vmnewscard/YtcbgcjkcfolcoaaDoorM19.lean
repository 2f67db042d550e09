/-
  The document's check of an image: classes, functions.
-/
import Derived.Test.YtcbgcjkcfolcoaaDoorM18
namespace Go.Proofs.YtcbgcjkcfolcoaaDoor
open Go.RowKit

def FineAt (w : World) : Prop := w.cell? ⟨0, 0, none⟩ = some (.int .i64 0) ∧ w.cell? ⟨0, 1, none⟩ = some (.int .i64 (-1))
theorem FineAt.keep {w w' : World} (h : FineAt w) (hb : Below w.heap.size w w') : FineAt w' := ⟨cellk hb h.1 (cell_lt h.1), cellk hb h.2 (cell_lt h.2)⟩

theorem rfun_all {w : World} {b : Nat} {m : PM} {vf vc vk : Value} {f : PF} {g3 g4 g5 : Option Addr} {p3 p4 p5 : Nat} (h : FunAsk w b m vf vc vk f g3 g4 g5 p3 p4 p5) :
    Calls Tryd.prog 18 #[.pointer (some ⟨b, 0, none⟩), .agg #[.string f.name, .int .i64 f.params, .int .i64 f.slots, .slice g3 f.code.length p3, .slice g4 f.hands.length p4, .slice g5 f.vars.length p5]] w fun e w' => RFnPost m f w e w' := by
  cases hs : sizeOk f with
  | false => exact rfun_size h hs
  | true => exact rfun_any h hs
/-- What the document asks of a class ahead of going up. -/
def badFlat (m : PM) (c : PK) : Bool := !(inB c.above (-1) (m.classes.length - 1)) || (c.names.length != c.meths.length)
theorem classBad_eq (m : PM) (i : Nat) (c : PK) : classBad m i c = (badFlat m c || c.meths.any (fun f => !callB m f) || roundP (aboves m) i (m.classes.length + 2) 0 c.above) := rfl
theorem any_take_succ {α : Type} {p : α → Bool} {l : List α} {k : Nat} {x : α} (h : l[k]? = some x) : (l.take (k + 1)).any p = ((l.take k).any p || p x) := by
  obtain ⟨hk, rfl⟩ := List.getElem?_eq_some_iff.1 h
  rw [List.take_succ_eq_append_getElem hk, List.any_append]
  simp
theorem cls_no {m : PM} {i : Nat} {c : PK} (hc : m.classes[i]? = some c) (h : classBad m i c = true) : ¬ ClassesOk m := fun hk => by
  have := (classes_alike m).1 hk i c hc
  rw [h] at this
  cases this
/-- The state of going up: found, or still going. -/
def Going1 (m : PM) (i : Nat) (R : Bool) (g : Nat) (bad : Bool) (q : Int) (n : Nat) : Prop :=
  (bad = true ∧ R = true) ∨ (bad = false ∧ n ≤ m.classes.length + 1 ∧ g = m.classes.length + 2 - n ∧ roundP (aboves m) i (m.classes.length + 2 - n) n q = R)

set_option maxRecDepth 100000 in
set_option maxHeartbeats 20000000 in
theorem img_any {w : World} {b : Nat} {m : PM} {vf vc vk : Value} (h : ImgAt w b m vf vc vk) (hl : limitOk m = true) (hin : InM m) (hfine : FineAt w) :
    Calls Tryd.prog 6 #[.pointer (some ⟨b, 0, none⟩)] w fun e w' => IPost m w e w' := by
  have hd : 1 ≤ m.funcs.length ∧ m.funcs.length ≤ 250 ∧ m.consts.length ≤ 1000 ∧ m.classes.length ≤ 250 := by
    unfold limitOk inB at hl
    simp at hl
    omega
  obtain ⟨hd1, hd2, hd3, hd4⟩ := hd
  have q1 : inB m.funcs.length 1 250 = true := by simp [inB]; omega
  have b2 : decide ((1000 : Int) < (m.consts.length : Int)) = false := by simp; omega
  have b3 : decide ((250 : Int) < (m.classes.length : Int)) = false := by simp; omega
  have HL := hide hl
  have HIN := hide hin
  obtain ⟨w0, hw0⟩ : ∃ w0, w.alloc (.cells #[.int .i64 0, .int .i64 0] 40) = w0 := ⟨_, rfl⟩
  have hb0 : Below w.heap.size w w0 := by rw [← hw0]; exact (Below.refl _ _).alloc (Nat.le_refl _) _
  have HB0 := hide hb0
  have HRB : Hid (Rb w0 w.heap.size) := ⟨⟨_, by rw [← hw0]; exact hnew _ _⟩⟩
  have HI := hide (h.keep hb0)
  have HFN := hide (hfine.keep hb0)
  have HW0 := hide hw0
  obtain ⟨RF, ⟨gf, capf, rfl, nf, rf⟩, hRF⟩ := (unhide HI).img.funcs
  obtain ⟨gc, capc, rfl, _, _⟩ := (unhide HI).img.consts
  obtain ⟨RK, ⟨gk, capk, rfl, nk, rk⟩, hRK⟩ := (unhide HI).img.classes
  have HRF := hide rf
  have HRRF := hide hRF
  have HRK := hide rk
  have HRRK := hide hRK
  have c0 := (unhide HI).c0
  have c1 := (unhide HI).c1
  have c2 := (unhide HI).c2
  have HC0 := hide c0
  have HC2 := hide c2
  have a0 := cell_al h.c0
  have a1 := cell_al h.c1
  have a2 := cell_al h.c2
  clear h hl hin hfine hb0 hw0 rf hRF rk hRK
  go_enter Tryd.func6, Tryd.ntmps6
  go_wp2_with fail
  rw [unhide HW0]
  clear a0 a1 a2
  refine (within_is q1 _).mono ?_
  rintro e wa ⟨rfl, rfl⟩
  clear q1
  go_wp2_with fail
  go_loopg [42] m.classes.length (fun gg i wr => ∃ k : Nat, k ≤ m.classes.length ∧ gg = m.classes.length - k ∧ i = .int .i64 k ∧ Hid (∀ (j : Nat) (c : PK), j < k → m.classes[j]? = some c → classBad m j c = false) ∧ Hid (Below w0.heap.size w0 wr))
  case atStart => exact ⟨0, Nat.zero_le _, rfl, rfl, fun j c hj => absurd hj (Nat.not_lt_zero j), Below.refl _ _⟩
  case round =>
    obtain ⟨k, hk, rfl, rfl, HA, HB⟩ := hrel
    by_cases hlt : k < m.classes.length
    · have hx : m.classes[k]? = some (m.classes[k]'hlt) := List.getElem?_eq_getElem _
      generalize (m.classes[k]'hlt) = x at *
      obtain ⟨gb, go, rfl, hK⟩ := KdAt.of_rows (unhide HRK) hlt (unhide HRRK k x hx)
      have j0 := cellk (unhide HB) hK.c0 (cell_lt hK.c0)
      have j1 := cellk (unhide HB) hK.c1 (cell_lt hK.c1)
      have j2 := cellk (unhide HB) hK.c2 (cell_lt hK.c2)
      have j3 := cellk (unhide HB) hK.c3 (cell_lt hK.c3)
      have j4 := cellk (unhide HB) hK.c4 (cell_lt hK.c4)
      obtain ⟨g2, cap2, e2, _, _⟩ := hK.kd.2.2.1
      obtain ⟨g3, cap3, e3, _, _⟩ := hK.kd.2.2.2.1
      obtain ⟨g4, cap4, e4, n4, r4⟩ := hK.kd.2.2.2.2
      rw [e2] at j2
      rw [e3] at j3
      rw [e4] at j4
      have R4 := hide r4
      have hk2 : (k : Int) < (m.classes.length : Int) := by omega
      have e20 := cell_al (cellk (unhide HB) (unhide HC2) (cell_lt (unhide HC2)))
      have HX := hide hx
      have HBA : ∀ o n, Hid (Below w0.heap.size w0 ((wr.alloc o).drewN n)) := fun o n => Bl.drewN ((unhide HB).alloc (unhide HB).size o) n
      clear hx hK e2 e3 e4 r4 c0 c1 c2
      go_wp2_with fail
      go_cut [5] (fun bd wc => bd = .bool (badFlat m x) ∧ Hid (Below w0.heap.size w0 wc) ∧ Hid (∃ t, wc.heap[wr.heap.size]? = some (.cells #[.string x.name, .int .i64 x.above, .slice g2 x.fields.length cap2, .slice g3 x.names.length cap3, .slice g4 x.meths.length cap4] t (0, 0))))
      case first =>
        have HD : Hid (badFlat m x = (!(inB x.above (-1) (m.classes.length - 1)) || (x.names.length != x.meths.length))) := rfl
        cases qa : inB x.above (-1) (m.classes.length - 1) with
        | false =>
          go_quiet ((go_at_call 17; exact Calls.quiet_of_same (same_back (within_is qa _))))
          go_wp2_with fail
          go_meet
          exact ⟨by rw [unhide HD, qa]; rfl, unhide (HBA _ _), ⟨_, hnew _ _⟩⟩
        | true =>
          have HN : Hid (((x.names.length : Int) != (x.meths.length : Int)) = (x.names.length != x.meths.length)) := by
            show _ = _
            rw [Bool.eq_iff_iff, bne_iff_ne, bne_iff_ne]
            omega
          go_quiet ((go_at_call 17; exact Calls.quiet_of_same (same_back (within_is qa _))))
          go_wp2_with fail
          go_meet
          exact ⟨by rw [unhide HD, qa, ← unhide HN]; rfl, unhide (HBA _ _), ⟨_, hnew _ _⟩⟩
      obtain ⟨rfl, HB1, HCB⟩ := hcut
      clear HBA e20 j0 j1 j2 j3 j4
      obtain ⟨tc, hcb⟩ := unhide HCB
      have u1 : wc.cell? ⟨wr.heap.size, 1, none⟩ = some (.int .i64 x.above) := hcell hcb 1
      have u4 : wc.cell? ⟨wr.heap.size, 4, none⟩ = some (.slice g4 x.meths.length cap4) := hcell hcb 4
      have v0 := cellk (unhide HB1) (unhide HC0) (cell_lt (unhide HC0))
      have v2 := cellk (unhide HB1) (unhide HC2) (cell_lt (unhide HC2))
      obtain ⟨z0, z1, z2, z3, z4⟩ := (unhide HRB).cells (unhide HB1)
      clear hcb HCB
      generalize wr.heap.size = cb at *
      go_wp2_with fail
      obtain ⟨B0, hB0⟩ : ∃ B0, badFlat m x = B0 := ⟨_, rfl⟩
      rw [hB0]
      have HB00 := hide hB0
      clear hB0
      go_loopg [5, 69] x.meths.length (fun g2' bd i wx => ∃ (j : Nat) (B : Bool), j ≤ x.meths.length ∧ g2' = x.meths.length - j ∧ i = .int .i64 j ∧ bd = .bool B ∧ wx = wc ∧ Hid (B = (B0 || (x.meths.take j).any (fun f => !callB m f))))
      case atStart => exact ⟨0, B0, Nat.zero_le _, rfl, rfl, rfl, rfl, by show _ = _; simp⟩
      case round =>
        obtain ⟨j, B, hj, rfl, rfl, rfl, rfl, HBJ⟩ := hrel
        by_cases hlj : j < x.meths.length
        · have hy : x.meths[j]? = some (x.meths[j]'hlj) := List.getElem?_eq_getElem _
          generalize (x.meths[j]'hlj) = y at *
          obtain ⟨mb, mo, rfl, i0⟩ := IntsAt.at (unhide R4) hy hlj
          have i1 := cellk (unhide HB1) i0 (cell_lt i0)
          have hj2 : (j : Int) < (x.meths.length : Int) := by omega
          have HY := hide hy
          clear hy i0
          cases B with
          | true =>
            have HN : Hid (true = (B0 || (x.meths.take (j + 1)).any (fun f => !callB m f))) := by
              show _ = _
              rw [any_take_succ (unhide HY), ← Bool.or_assoc, ← unhide HBJ]
              rfl
            go_wp2_with fail
            go_roundg (x.meths.length - (j + 1))
            case measure => omega
            case rel => exact ⟨j + 1, true, by omega, rfl, by go_num, rfl, rfl, unhide HN⟩
          | false =>
            cases hcb : callB m y with
            | true =>
              have HN : Hid (false = (B0 || (x.meths.take (j + 1)).any (fun f => !callB m f))) := by
                show _ = _
                rw [any_take_succ (unhide HY), ← Bool.or_assoc, ← unhide HBJ, hcb]
                rfl
              go_wp2_with fail
              refine (within_cl hcb _).mono ?_
              rintro e wa ⟨rfl, rfl⟩
              go_wp2_with fail
              go_roundg (x.meths.length - (j + 1))
              case measure => omega
              case rel => exact ⟨j + 1, false, by omega, rfl, by go_num, rfl, rfl, unhide HN⟩
            | false =>
              have HN : Hid (true = (B0 || (x.meths.take (j + 1)).any (fun f => !callB m f))) := by
                show _ = _
                rw [any_take_succ (unhide HY), ← Bool.or_assoc, ← unhide HBJ, hcb]
                rfl
              go_wp2_with fail
              refine (within_cl hcb _).mono ?_
              rintro e wa ⟨rfl, rfl⟩
              go_wp2_with fail
              go_roundg (x.meths.length - (j + 1))
              case measure => omega
              case rel => exact ⟨j + 1, true, by omega, rfl, by go_num, rfl, rfl, unhide HN⟩
        · obtain rfl : j = x.meths.length := by omega
          have hff2 : decide ((x.meths.length : Int) < (x.meths.length : Int)) = false := by simp
          have HT : Hid (classBad m k x = (B || roundP (aboves m) k (m.classes.length + 2) 0 x.above)) := by
            show _ = _
            have := unhide HBJ
            rw [List.take_length] at this
            rw [classBad_eq, unhide HB00, this]
          obtain ⟨T, hT⟩ : ∃ T, classBad m k x = T := ⟨_, rfl⟩
          have HTT := hide hT
          have HG : Hid (Going1 m k T (m.classes.length + 2) B x.above 0) := by
            show Going1 m k T _ _ _ _
            have := unhide HT
            rw [hT] at this
            cases B with
            | true => exact Or.inl ⟨rfl, this⟩
            | false => exact Or.inr ⟨rfl, by omega, rfl, this.symm⟩
          clear hlj hj HBJ HT hT u4
          go_wp2_with fail
          go_loopg [5, 8, 9] (m.classes.length + 2) (fun g3' bd q n wx => ∃ (bad : Bool) (qi : Int) (nn : Nat), bd = .bool bad ∧ q = .int .i64 qi ∧ n = .int .i64 nn ∧ nn ≤ m.classes.length + 2 ∧ 0 ≤ g3' ∧ Hid (Going1 m k T g3' bad qi nn) ∧ wx = wr)
          case atStart => exact ⟨B, x.above, 0, rfl, rfl, rfl, by omega, by omega, unhide HG, rfl⟩
          case round =>
            obtain ⟨bad, qi, nn, rfl, rfl, rfl, hnn, _, HG, rfl⟩ := hrel
            cases bad with
            | true =>
              have HTR : Hid (T = true) := by
                rcases unhide HG with ⟨_, h⟩ | ⟨h, _⟩
                · exact h
                · cases h
              go_wp2_with fail
              refine (bare_any 2 _).mono ?_
              rintro e w5 ⟨rfl, hb5⟩
              obtain ⟨y0, y1, y2, y3, y4⟩ := (unhide HRB).cells ((unhide HB1).trans (hb5.mono (unhide HB1).size))
              obtain ⟨tr, hrb⟩ := (unhide HRB).blk
              obtain ⟨x0, x1⟩ := two_set ((((unhide HB1).trans (hb5.mono (unhide HB1).size)).block w.heap.size (Array.getElem?_eq_some_iff.1 hrb).1).trans hrb) (.int .i64 2) (.int .i64 (-1))
              have HB5 := hide ((unhide HB0).trans (((unhide HB1).trans (hb5.mono (unhide HB1).size)).mono (unhide HB0).size))
              clear hb5 hrb
              go_wp2_with fail
              exact bodyPost_ret (v := .agg #[.int .i64 2, .int .i64 (-1)]) (by simp [results, Tryd.results6, go_sem, x0, x1]) rfl (IPost.mk (below_two (unhide HB5) (Nat.le_refl _) _ _) (Or.inr (Or.inl ⟨unhide HL, cls_no (unhide HX) ((unhide HTT).trans (unhide HTR)), rfl, rfl⟩)))
            | false =>
              obtain ⟨hn1, hg1, hro⟩ : nn ≤ m.classes.length + 1 ∧ gk = m.classes.length + 2 - nn ∧ roundP (aboves m) k (m.classes.length + 2 - nn) nn qi = T := by
                rcases unhide HG with ⟨h, _⟩ | ⟨_, h1, h2, h3⟩
                · cases h
                · exact ⟨h1, h2, h3⟩
              obtain ⟨fu, hfu⟩ : ∃ fu, m.classes.length + 2 - nn = fu + 1 := ⟨m.classes.length + 1 - nn, by omega⟩
              rw [hfu, roundP_succ, aboves_length] at hro
              have HRO := hide hro
              have HG1 := hide hg1
              have HFU := hide hfu
              clear hro HG hg1 hfu
              cases qb : belowB qi m.classes.length with
              | false =>
                have HTF : Hid (T = false) := by
                  show T = false
                  have := unhide HRO
                  rw [qb] at this
                  exact this.symm
                go_wp2_with fail
                refine (within_bl qb _).mono ?_
                rintro e wa ⟨rfl, rfl⟩
                go_wp2_with fail
                go_roundg (m.classes.length - (k + 1))
                case measure => omega
                case rel =>
                  refine ⟨k + 1, by omega, rfl, by go_num, fun j c hj hcj => ?_, unhide HB1⟩
                  by_cases e : j = k
                  · subst e
                    rw [unhide HX] at hcj
                    cases hcj
                    exact (unhide HTT).trans (unhide HTF)
                  · exact unhide HA j c (by omega) hcj
              | true =>
                obtain ⟨hq1, hq2⟩ := belowB_true qb
                obtain ⟨qn, rfl⟩ := Int.eq_ofNat_of_zero_le hq1
                have hqn : qn < m.classes.length := by omega
                have hxq : m.classes[qn]? = some (m.classes[qn]'hqn) := List.getElem?_eq_getElem _
                have hone := oneUp_class hxq
                have hKq := unhide HRRK qn _ hxq
                generalize (m.classes[qn]'hqn) = xq at *
                obtain ⟨b5, o5, e5, hKd⟩ := KdAt.of_rows (unhide HRK) hqn hKq
                cases e5
                have i5 := cellk (unhide HB1) hKd.c1 (cell_lt hKd.c1)
                have HON := hide hone
                clear hxq hKq hKd hone
                by_cases hs : (qn : Int) = (k : Int) ∨ m.classes.length < nn
                · have HTR : Hid (T = true) := by
                    show T = true
                    have := unhide HRO
                    rw [qb, if_pos rfl, if_pos hs] at this
                    exact this.symm
                  by_cases hs1 : (qn : Int) = (k : Int)
                  · have bs : ((qn : Int) == (k : Int)) = true := by rw [beq_iff_eq]; exact hs1
                    clear hs hs1
                    go_wp2_with fail
                    refine (within_bl qb _).mono ?_
                    rintro e wa ⟨rfl, rfl⟩
                    go_wp2_with fail
                    go_roundg (gk - 1)
                    case measure => have := unhide HG1; omega
                    case rel => exact ⟨true, _, nn + 1, rfl, rfl, by go_num, by omega, by omega, Or.inl ⟨rfl, unhide HTR⟩, rfl⟩
                  · have bs : ((qn : Int) == (k : Int)) = false := by rw [beq_eq_false_iff_ne]; exact hs1
                    have bn : decide ((m.classes.length : Int) < (nn : Int)) = true := by simp; omega
                    have hgt : m.classes.length < nn := by omega
                    clear hs hs1
                    go_wp2_with fail
                    refine (within_bl qb _).mono ?_
                    rintro e wa ⟨rfl, rfl⟩
                    go_wp2_with fail
                    go_roundg (gk - 1)
                    case measure => have := unhide HG1; omega
                    case rel => exact ⟨true, _, nn + 1, rfl, rfl, by go_num, by omega, by omega, Or.inl ⟨rfl, unhide HTR⟩, rfl⟩
                · have bs : ((qn : Int) == (k : Int)) = false := by rw [beq_eq_false_iff_ne]; omega
                  have bn : decide ((m.classes.length : Int) < (nn : Int)) = false := by simp; omega
                  have HGN : Hid (Going1 m k T (gk - 1) false xq.above (nn + 1)) := by
                    have h1 := unhide HRO
                    have h2 := unhide HG1
                    have h3 := unhide HFU
                    rw [qb, if_pos rfl, if_neg hs, unhide HON] at h1
                    refine Or.inr ⟨rfl, by omega, by omega, ?_⟩
                    rw [show m.classes.length + 2 - (nn + 1) = fu by omega]
                    exact h1
                  have hnl : nn ≤ m.classes.length := by omega
                  clear hs
                  go_wp2_with fail
                  refine (within_bl qb _).mono ?_
                  rintro e wa ⟨rfl, rfl⟩
                  go_wp2_with fail
                  go_roundg (gk - 1)
                  case measure => have := unhide HG1; omega
                  case rel => exact ⟨false, _, nn + 1, rfl, rfl, by go_num, by omega, by omega, unhide HGN, rfl⟩
    · obtain rfl : k = m.classes.length := by omega
      have hff : decide ((m.classes.length : Int) < (m.classes.length : Int)) = false := by simp
      have HOK : Hid (ClassesOk m) := (classes_alike m).2 fun i c hc => unhide HA i c (List.getElem?_eq_some_iff.1 hc).1 hc
      have d0 := cellk (unhide HB) (unhide HC0) (cell_lt (unhide HC0))
      clear c0 c1 c2 HA hlt hk
      go_wp2_with fail
      go_loopg [130] m.funcs.length (fun gg i wx => ∃ k : Nat, k ≤ m.funcs.length ∧ gg = m.funcs.length - k ∧ i = .int .i64 k ∧ Hid (∀ (j : Nat) (g : PF), j < k → m.funcs[j]? = some g → FnErr m g 0) ∧ Hid (Below w0.heap.size w0 wx))
      case atStart => exact ⟨0, Nat.zero_le _, rfl, rfl, fun j c hj => absurd hj (Nat.not_lt_zero j), unhide HB⟩
      case round =>
        obtain ⟨k, hk, rfl, rfl, HA, HB⟩ := hrel
        clear d0
        obtain ⟨y0, y1, y2, y3, y4⟩ := (unhide HRB).cells (unhide HB)
        by_cases hlt : k < m.funcs.length
        · have hx : m.funcs[k]? = some (m.funcs[k]'hlt) := List.getElem?_eq_getElem _
          generalize (m.funcs[k]'hlt) = x at *
          have hk2 : (k : Int) < (m.funcs.length : Int) := by omega
          obtain ⟨gb, go, rfl, hF⟩ := FnAt.of_rows (unhide HRF) hlt (unhide HRRF k x hx)
          obtain ⟨g3, p3, e3, _, _⟩ := hF.fn.2.2.2.1
          obtain ⟨g4, p4, e4, _, _⟩ := hF.fn.2.2.2.2.1
          obtain ⟨g5, p5, e5, _, _⟩ := hF.fn.2.2.2.2.2
          have i0 := cellk (unhide HB) hF.c0 (cell_lt hF.c0)
          have i1 := cellk (unhide HB) hF.c1 (cell_lt hF.c1)
          have i2 := cellk (unhide HB) hF.c2 (cell_lt hF.c2)
          have i3 := cellk (unhide HB) hF.c3 (cell_lt hF.c3)
          have i4 := cellk (unhide HB) hF.c4 (cell_lt hF.c4)
          have i5 := cellk (unhide HB) hF.c5 (cell_lt hF.c5)
          rw [e3] at i3
          rw [e4] at i4
          rw [e5] at i5
          have hfn := (hF.fn.keep (unhide HB))
          have HFA : ∀ o, Hid (FunAsk (wr.alloc o) b m (.slice (some ⟨gb, go, none⟩) m.funcs.length capf) (.slice gc m.consts.length capc) (.slice gk m.classes.length capk) x g3 g4 g5 p3 p4 p5) := fun o => by
            have hba : Below wr.heap.size wr (wr.alloc o) := (Below.refl _ _).alloc (Nat.le_refl _) _
            refine ⟨((unhide HI).keep (unhide HB)).keep hba, hd2, hd3, hd4, ?_, ?_, ?_, unhide HIN x (List.mem_of_getElem? hx)⟩
            · have := hfn.2.2.2.1; rw [e3] at this; exact this.keep hba
            · have := hfn.2.2.2.2.1; rw [e4] at this; exact this.keep hba
            · have := hfn.2.2.2.2.2; rw [e5] at this; exact this.keep hba
          have HX := hide hx
          clear hx hF e3 e4 e5 hfn
          go_wp2_with fail
          refine (rfun_all (unhide (HFA _))).mono ?_
          rintro e w2 ⟨hb2, n, rfl, hn⟩
          have hb3 : Below w0.heap.size w0 w2 := ((unhide HB).alloc (unhide HB).size _).trans (hb2.mono (by simp; have := (unhide HB).size; omega))
          obtain ⟨y0, y1, y2, y3, y4⟩ := (unhide HRB).cells hb3
          obtain ⟨tr, hrb⟩ := (unhide HRB).blk
          obtain ⟨x0, x1⟩ := two_set ((hb3.block w.heap.size (Array.getElem?_eq_some_iff.1 hrb).1).trans hrb) (.int .i64 n) (.int .i64 k)
          have HB3 := hide hb3
          have HN := hide hn
          clear hb2 hn hb3 hrb
          by_cases h0 : n = 0
          · have hb0 : (n != 0) = false := by rw [bne_eq_false_iff_eq]; exact h0
            have H0 := hide h0
            clear h0 x0 x1
            go_wp2_with fail
            go_roundg (m.funcs.length - (k + 1))
            case measure => omega
            case rel =>
              refine ⟨k + 1, by omega, rfl, by go_num, fun j c hj hcj => ?_, unhide HB3⟩
              by_cases e : j = k
              · subst e
                rw [unhide HX] at hcj
                cases hcj
                have := unhide HN
                rwa [unhide H0] at this
              · exact unhide HA j c (by omega) hcj
          · have hb0 : (n != 0) = true := by rw [bne_iff_ne]; exact h0
            have H0 := hide h0
            clear h0
            go_wp2_with fail
            exact bodyPost_ret (v := .agg #[.int .i64 n, .int .i64 k]) (by simp [results, Tryd.results6, go_sem, x0, x1]) rfl (IPost.mk (below_two ((unhide HB0).trans ((unhide HB3).mono (unhide HB0).size)) (Nat.le_refl _) _ _) (Or.inr (Or.inr ⟨unhide HL, unhide HOK, Or.inl ⟨k, x, unhide HX, unhide HN, unhide H0, rfl, unhide HA⟩⟩)))
        · obtain rfl : k = m.funcs.length := by omega
          have hff5 : decide ((m.funcs.length : Int) < (m.funcs.length : Int)) = false := by simp
          have m0 := cellk (unhide HB) (unhide HFN).1 (cell_lt (unhide HFN).1)
          have m1 := cellk (unhide HB) (unhide HFN).2 (cell_lt (unhide HFN).2)
          obtain ⟨tr, hrb⟩ := (unhide HRB).blk
          obtain ⟨x0, x1⟩ := two_set (((unhide HB).block w.heap.size (Array.getElem?_eq_some_iff.1 hrb).1).trans hrb) (.int .i64 0) (.int .i64 (-1))
          clear hlt hk hrb
          go_wp2_with fail
          exact bodyPost_ret (v := .agg #[.int .i64 0, .int .i64 (-1)]) (by simp [results, Tryd.results6, go_sem, x0, x1]) rfl (IPost.mk (below_two ((unhide HB0).trans ((unhide HB).mono (unhide HB0).size)) (Nat.le_refl _) _ _) (Or.inr (Or.inr ⟨unhide HL, unhide HOK, Or.inr ⟨rfl, rfl, fun j g hj => unhide HA j g (List.getElem?_eq_some_iff.1 hj).1 hj⟩⟩)))
end Go.Proofs.YtcbgcjkcfolcoaaDoor
