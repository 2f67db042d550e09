/-
  An image's bytes are the document's, and are that image again: the law.
-/
import Derived.Test.YtkafldkhmkdafaaGreatDoorM29
namespace Go.Proofs.YtkafldkhmkdafaaGreatDoor
open Go.RowKit

theorem bytes_str {w : World} {g : Option Addr} {l : List Int} (h : BytesAt w g l) (cap : Nat) :
    (convert 39 9 (.slice g l.length cap)).run Tryz.prog w = .ok (.string (strOfNums l)) w := by
  cases g with
  | none =>
    have h0 : l = [] := by
      rcases Nat.eq_zero_or_pos l.length with q | q
      · exact List.length_eq_zero_iff.1 q
      · obtain ⟨_, _, e, _⟩ := h.cell 0 q
        cases e
    subst h0
    show (convert 39 9 (.slice none 0 cap)).run Tryz.prog w = _
    rw [run_convert_bytes_nil w 39 5 Tryz.underlying39 Tryz.underlying5 0 cap 9 Tryz.underlying9]
    rfl
  | some a =>
    by_cases hp : 0 < l.length
    · obtain ⟨b, o, e, _⟩ := h.cell 0 hp
      obtain rfl := Option.some.inj e
      refine run_convert_bytes_arg w 39 5 Tryz.underlying39 Tryz.underlying5 b o l.length cap l rfl (fun i hi => ?_) 9 Tryz.underlying9
      obtain ⟨b', o', e', hc⟩ := h.cell i hi
      cases e'
      exact hc
    · have h0 : l = [] := List.length_eq_zero_iff.1 (by omega)
      subst h0
      have key : ∀ a : Addr, (convert 39 9 (.slice (some a) 0 cap)).run Tryz.prog w = .ok (.string (strOfNums [])) w := fun a => by
        rw [run_convert_bytes_string w 39 9 5 _ 0 cap Tryz.underlying39 Tryz.underlying5 Tryz.underlying9, run_bytesToString w a 0 cap [] (by simp [loadCells, loadCellsFrom])]
        rfl
      exact key a
/-- All numbers are numbers. -/
def okN (m : PM) : Prop := (∀ c ∈ m.consts, I64 c.n) ∧ (∀ c ∈ m.classes, I64 c.above ∧ ∀ x ∈ c.meths, I64 x) ∧ ∀ f ∈ m.funcs, okF f
theorem okN.w {m : PM} (h : okN m) (hl : ∀ (j : Nat) c, j < m.classes.length → m.classes[j]? = some c → c.names.length = c.meths.length) : okW m :=
  ⟨h.1, fun c hc => by
    obtain ⟨j, hj⟩ := List.getElem?_of_mem hc
    exact ⟨(h.2.1 c hc).1, (h.2.1 c hc).2, hl j c ((List.getElem?_eq_some_iff.1 hj).1) hj⟩, h.2.2⟩
def canon (c : PC) : Prop := (c.text = true → c.n = 0) ∧ (c.text = false → c.s = ⟨#[]⟩)
theorem okW.m {m : PM} (h : okW m) (hc : ∀ (j : Nat) c, j < m.consts.length → m.consts[j]? = some c → canon c) : okM m :=
  ⟨fun c hm => by
    obtain ⟨j, hj⟩ := List.getElem?_of_mem hm
    have := hc j c ((List.getElem?_eq_some_iff.1 hj).1) hj
    exact ⟨h.1 c hm, this.1, this.2⟩, h.2.1, h.2.2⟩
theorem ba_nil {s : ByteArray} (h : s.toList = []) : s = ⟨#[]⟩ := by
  rw [ByteArray.toList_eq] at h
  cases s
  simp at h
  subst h
  rfl
theorem owns_cap {w : World} {B : Nat} {e : TypeId} {k : Nat} {g : Option Addr} {n cap : Nat} {xs : List Value} (h : w.ownsRow B e k (.slice g n cap) n xs) : n ≤ cap := by
  rcases h.2 with ⟨q, rfl⟩ | ⟨g', cap', cur, q, _, _, q4, _⟩
  · exact Nat.zero_le _
  · cases q
    exact q4
theorem decode_big {w : World} {g : Option Addr} {n cap : Nat} (hn : 100000 < n) : Calls Tryz.prog 9 #[.slice g n cap] w fun e w' => e = .returned (.tuple #[.pointer none, .iface 28 (.int .i64 4)]) ∧ w' = w := by
  have h5' : (100000 : Int) < (n : Int) := by omega
  go_enter Tryz.func9, Tryz.ntmps9
  go_wp2_with fail
  go_ret2
  exact ⟨rfl, rfl⟩

set_option maxRecDepth 100000 in
set_option maxHeartbeats 8000000 in
theorem encodes_any {w : World} {m : PM} {vf vc vk : Value} (h : ImgIs w vf vc vk m) (hin : InM m) (hnum : okN m) (hlen : (encImg m).length ≤ 15000000) (hfine : FineAt w) (hT : ErrT w) :
    Calls Tryz.prog 3 #[.agg #[vf, vc, vk]] w fun e w' => e = .returned (.bool true) ∧ Below w.heap.size w w' := by
  have H := hide h
  obtain ⟨RF, ⟨gf, capf, rfl, nf, rf⟩, hRF⟩ := h.funcs
  obtain ⟨gc, capc, rfl, nc, rc⟩ := h.consts
  obtain ⟨RK, ⟨gk, capk, rfl, nk, rk⟩, hRK⟩ := h.classes
  have HFN := hide hfine
  have HT := hide hT
  have HIN := hide hin
  have HNUM := hide hnum
  have HLEN := hide hlen
  have HRC := hide rc
  have HRK := hide rk
  have HRRK := hide hRK
  clear h hfine hT rf hRF rc rk hRK hin hnum hlen
  obtain ⟨wm, hwm⟩ : ∃ wm, w.alloc (.cells #[.slice gf m.funcs.length capf, .slice gc m.consts.length capc, .slice gk m.classes.length capk] 26) = wm := ⟨_, rfl⟩
  have HB := hide (show Below w.heap.size w wm by rw [← hwm]; exact (Below.refl _ _).alloc (Nat.le_refl _) _)
  have hkm : wm.heap[w.heap.size]? = some (.cells #[.slice gf m.funcs.length capf, .slice gc m.consts.length capc, .slice gk m.classes.length capk] 26 (0, 0)) := by rw [← hwm]; exact hnew _ _
  have HM := hide (show ImgAt wm w.heap.size m (.slice gf m.funcs.length capf) (.slice gc m.consts.length capc) (.slice gk m.classes.length capk) from ⟨hcell hkm 0, hcell hkm 1, hcell hkm 2, (unhide H).keep (unhide HB)⟩)
  have m0 := (unhide HM).c0
  have m1 := (unhide HM).c1
  have m2 := (unhide HM).c2
  clear hkm
  go_enter Tryz.func3, Tryz.ntmps3
  go_wp2_with fail
  clear m0 m1 m2 hwm
  refine (few_law (unhide HM).img).mono ?_
  rintro e w1 ⟨hb1, c, rfl, hc⟩
  cases c with
  | false =>
    have HB1 := hide ((unhide HB).trans (hb1.mono (unhide HB).size))
    clear hb1 hc
    go_wp2_with fail
    go_ret
    exact ⟨rfl, unhide HB1⟩
  | true =>
    obtain ⟨bF, bK, bL⟩ := hc rfl
    have HB1 := hide ((unhide HB).trans (hb1.mono (unhide HB).size))
    have HM1 := hide ((unhide HM).keep hb1)
    clear hb1 hc
    go_wp2_with fail
    refine (image_any (unhide HM1) bK bF bL).mono ?_
    rintro e w3 ⟨hb3, ib, vf', vc', vk', rfl, hi⟩
    have HB3 := hide ((unhide HB1).trans (hb3.mono (unhide HB1).size))
    have HM3 := hide ((unhide HM1).keep hb3)
    have HI := hide hi
    clear hb3 hi
    go_wp2_with fail
    refine (img_all (unhide HI) (unhide HIN) ((unhide HFN).keep (unhide HB3))).mono ?_
    rintro e w4 ⟨hb4, n', p', rfl, hv'⟩
    have HV := hide hv'
    have HB4 := hide ((unhide HB3).trans (hb4.mono (unhide HB3).size))
    have HM4 := hide ((unhide HM3).keep hb4)
    obtain ⟨W, hW⟩ : ∃ W, w4.alloc (.cells #[.int .i64 n', .int .i64 p'] 30) = W := ⟨_, rfl⟩
    have hbW : Below w4.heap.size w4 W := by rw [← hW]; exact (Below.refl _ _).alloc (Nat.le_refl _) _
    have HBW := hide ((unhide HB4).trans (hbW.mono (unhide HB4).size))
    have HMW := hide ((unhide HM4).keep hbW)
    have HFB : Hid (W.heap[w4.heap.size]? = some (.cells #[.int .i64 n', .int .i64 p'] 30 (0, 0))) := by rw [← hW]; exact hnew _ _
    clear hb4 hv' hbW
    go_wp2_with fail
    try rw [hW]
    clear hW
    go_loopg [4] m.classes.length (fun gg i wr => ∃ (k : Nat), k ≤ m.classes.length ∧ gg = m.classes.length - k ∧ i = .int .i64 k ∧ Hid ((∀ (j : Nat) c, j < k → m.classes[j]? = some c → c.names.length = c.meths.length) ∧ Below W.heap.size W wr))
    case atStart => exact ⟨0, Nat.zero_le _, rfl, rfl, (fun j c hj => absurd hj (Nat.not_lt_zero j)), Below.refl _ _⟩
    case round =>
      obtain ⟨k, hk, rfl, rfl, HY⟩ := hrel
      have HMR := hide ((unhide HMW).keep (unhide HY).2)
      have HBR := hide ((unhide HBW).trans ((unhide HY).2.mono (unhide HBW).size))
      by_cases hlk : k < m.classes.length
      · have hk2 : (k : Int) < (m.classes.length : Int) := by omega
        obtain ⟨x, hx⟩ : ∃ x, m.classes[k]? = some x := ⟨m.classes[k], List.getElem?_eq_getElem hlk⟩
        obtain ⟨_, _, _, ⟨g3, d3, E3, _, _⟩, ⟨g4, d4, E4, _, _⟩⟩ := (unhide HRRK) k x hx
        obtain ⟨gb, go, rfl, hcs⟩ := (unhide HRK).keep (unhide HBR) k hlk
        have c3 : wr.cell? ⟨gb, go + k * 5 + 3, none⟩ = some (.slice g3 x.names.length d3) := by
          have := hcs 3 (by omega)
          rw [E3] at this
          exact this
        have c4 : wr.cell? ⟨gb, go + k * 5 + 4, none⟩ = some (.slice g4 x.meths.length d4) := by
          have := hcs 4 (by omega)
          rw [E4] at this
          exact this
        have m2 : wr.cell? ⟨w.heap.size, 2, none⟩ = some (.slice (some ⟨gb, go, none⟩) m.classes.length capk) := (unhide HMR).c2
        have HX := hide hx
        clear hx hcs E3 E4
        by_cases he : x.names.length = x.meths.length
        · have hne : ((x.names.length : Int) != (x.meths.length : Int)) = false := by simp; omega
          have HE := hide he
          clear he
          go_wp2_with fail
          refine wp_region_held_drew (S := (fun w' => w'.cell? ⟨w.heap.size, 2, none⟩ = some (.slice (some ⟨gb, go, none⟩) m.classes.length capk) ∧ w'.cell? ⟨gb, go + k * 5 + 3, none⟩ = some (.slice g3 x.names.length d3) ∧ w'.cell? ⟨gb, go + k * 5 + 4, none⟩ = some (.slice g4 x.meths.length d4))) (by kernel_rfl) ⟨m2, c3, c4⟩ (fun hHeld => ?_)
          refine wpAnyH_take (i := 0) (oi := { dst := some 23, op := _, type := _, pos := _, after := _, guard := _ }) (v := ?_) rfl (by kernel_rfl) (by kernel_rfl) (by kernel_rfl) (fun _ _ _ h => h) (Or.inl ⟨by rfl, ?_⟩) (by assumption) ?_
          case refine_2 =>
            intro w hSw
            try dsimp only at hSw
            go_simp
            try with_reducible rfl
          simp only [Act.put, List.setIfInBounds_toArray, List.set_cons_zero, List.set_cons_succ]
          refine wpAnyH_take (i := 1) (oi := { dst := some 24, op := _, type := _, pos := _, after := _, guard := _ }) (v := ?_) rfl (by kernel_rfl) (by kernel_rfl) (by kernel_rfl) (fun _ _ _ h => h) (Or.inl ⟨by rfl, ?_⟩) (by assumption) ?_
          case refine_2 =>
            intro w hSw
            try dsimp only at hSw
            go_simp
            try with_reducible rfl
          simp only [Act.put, List.setIfInBounds_toArray, List.set_cons_zero, List.set_cons_succ]
          refine wpAnyH_take (i := 2) (oi := { dst := some 25, op := _, type := _, pos := _, after := _, guard := _ }) (v := ?_) rfl (by kernel_rfl) (by kernel_rfl) (by kernel_rfl) (fun _ _ _ h => h) (Or.inl ⟨by rfl, ?_⟩) (by assumption) ?_
          case refine_2 =>
            intro w hSw
            try dsimp only at hSw
            go_simp
            try with_reducible rfl
          simp only [Act.put, List.setIfInBounds_toArray, List.set_cons_zero, List.set_cons_succ]
          refine wpAnyH_take (i := 3) (oi := { dst := some 26, op := _, type := _, pos := _, after := _, guard := _ }) (v := ?_) rfl (by kernel_rfl) (by kernel_rfl) (by kernel_rfl) (fun _ _ _ h => h) (Or.inl ⟨by rfl, ?_⟩) (by assumption) ?_
          case refine_2 =>
            intro w hSw
            try dsimp only at hSw
            go_simp
            try with_reducible rfl
          simp only [Act.put, List.setIfInBounds_toArray, List.set_cons_zero, List.set_cons_succ]
          refine wpAnyH_take (i := 4) (oi := { dst := some 27, op := _, type := _, pos := _, after := _, guard := _ }) (v := ?_) rfl (by kernel_rfl) (by kernel_rfl) (by kernel_rfl) (fun _ _ _ h => h) (Or.inl ⟨by rfl, ?_⟩) (by assumption) ?_
          case refine_2 =>
            intro w hSw
            try dsimp only at hSw
            go_simp
            try with_reducible rfl
          simp only [Act.put, List.setIfInBounds_toArray, List.set_cons_zero, List.set_cons_succ]
          refine wpAnyH_take (i := 5) (oi := { dst := some 28, op := _, type := _, pos := _, after := _, guard := _ }) (v := ?_) rfl (by kernel_rfl) (by kernel_rfl) (by kernel_rfl) (fun _ _ _ h => h) (Or.inl ⟨by rfl, ?_⟩) (by assumption) ?_
          case refine_2 =>
            intro w hSw
            try dsimp only at hSw
            go_simp
            try with_reducible rfl
          simp only [Act.put, List.setIfInBounds_toArray, List.set_cons_zero, List.set_cons_succ]
          refine wpAnyH_take (i := 6) (oi := { dst := some 29, op := _, type := _, pos := _, after := _, guard := _ }) (v := ?_) rfl (by kernel_rfl) (by kernel_rfl) (by kernel_rfl) (fun _ _ _ h => h) (Or.inl ⟨by rfl, ?_⟩) (by assumption) ?_
          case refine_2 =>
            intro w hSw
            try dsimp only at hSw
            go_simp
            try with_reducible rfl
          simp only [Act.put, List.setIfInBounds_toArray, List.set_cons_zero, List.set_cons_succ]
          refine wpAnyH_take (i := 7) (oi := { dst := some 30, op := _, type := _, pos := _, after := _, guard := _ }) (v := ?_) rfl (by kernel_rfl) (by kernel_rfl) (by kernel_rfl) (fun _ _ _ h => h) (Or.inl ⟨by rfl, ?_⟩) (by assumption) ?_
          case refine_2 =>
            intro w hSw
            try dsimp only at hSw
            go_simp
            try with_reducible rfl
          simp only [Act.put, List.setIfInBounds_toArray, List.set_cons_zero, List.set_cons_succ]
          refine wpAnyH_take (i := 8) (oi := { dst := some 31, op := _, type := _, pos := _, after := _, guard := _ }) (v := ?_) rfl (by kernel_rfl) (by kernel_rfl) (by kernel_rfl) (fun _ _ _ h => h) (Or.inl ⟨by rfl, ?_⟩) (by assumption) ?_
          case refine_2 =>
            intro w hSw
            try dsimp only at hSw
            go_simp
            try with_reducible rfl
          simp only [Act.put, List.setIfInBounds_toArray, List.set_cons_zero, List.set_cons_succ]
          refine wpAnyH_take (i := 9) (oi := { dst := some 32, op := _, type := _, pos := _, after := _, guard := _ }) (v := ?_) rfl (by kernel_rfl) (by kernel_rfl) (by kernel_rfl) (fun _ _ _ h => h) (Or.inl ⟨by rfl, ?_⟩) (by assumption) ?_
          case refine_2 =>
            intro w hSw
            try dsimp only at hSw
            go_simp
            try with_reducible rfl
          simp only [Act.put, List.setIfInBounds_toArray, List.set_cons_zero, List.set_cons_succ]
          refine wpAnyH_take (i := 10) (oi := { dst := some 33, op := _, type := _, pos := _, after := _, guard := _ }) (v := ?_) rfl (by kernel_rfl) (by kernel_rfl) (by kernel_rfl) (fun _ _ _ h => h) (Or.inl ⟨by rfl, ?_⟩) (by assumption) ?_
          case refine_2 =>
            intro w hSw
            try dsimp only at hSw
            go_simp
            try with_reducible rfl
          simp only [Act.put, List.setIfInBounds_toArray, List.set_cons_zero, List.set_cons_succ]
          refine wpAnyH_take (i := 11) (oi := { dst := some 34, op := _, type := _, pos := _, after := _, guard := _ }) (v := ?_) rfl (by kernel_rfl) (by kernel_rfl) (by kernel_rfl) (fun _ _ _ h => h) (Or.inl ⟨by rfl, ?_⟩) (by assumption) ?_
          case refine_2 =>
            intro w hSw
            try dsimp only at hSw
            go_simp
            try with_reducible rfl
          simp only [Act.put, List.setIfInBounds_toArray, List.set_cons_zero, List.set_cons_succ]
          refine wpAnyH_take (i := 12) (oi := { dst := some 35, op := _, type := _, pos := _, after := _, guard := _ }) (v := ?_) rfl (by kernel_rfl) (by kernel_rfl) (by kernel_rfl) (fun _ _ _ h => h) (Or.inl ⟨by rfl, ?_⟩) (by assumption) ?_
          case refine_2 =>
            intro w hSw
            try dsimp only at hSw
            go_simp
            try with_reducible rfl
          simp only [Act.put, List.setIfInBounds_toArray, List.set_cons_zero, List.set_cons_succ]
          refine wpAnyH_take (i := 13) (oi := { dst := some 36, op := _, type := _, pos := _, after := _, guard := _ }) (v := ?_) rfl (by kernel_rfl) (by kernel_rfl) (by kernel_rfl) (fun _ _ _ h => h) (Or.inl ⟨by rfl, ?_⟩) (by assumption) ?_
          case refine_2 =>
            intro w hSw
            try dsimp only at hSw
            go_simp
            try with_reducible rfl
          simp only [Act.put, List.setIfInBounds_toArray, List.set_cons_zero, List.set_cons_succ]
          refine wpAnyH_take (i := 14) (oi := { dst := some 37, op := _, type := _, pos := _, after := _, guard := _ }) (v := ?_) rfl (by kernel_rfl) (by kernel_rfl) (by kernel_rfl) (fun _ _ _ h => h) (Or.inl ⟨by rfl, ?_⟩) (by assumption) ?_
          case refine_2 =>
            intro w hSw
            try dsimp only at hSw
            go_simp
            try with_reducible rfl
          simp only [Act.put, List.setIfInBounds_toArray, List.set_cons_zero, List.set_cons_succ]
          refine wpAnyH_done (by kernel_rfl) ?_ _
          clear m2 c3 c4 hne
          go_wp2_with fail
          go_roundg (m.classes.length - (k + 1))
          case measure => omega
          case rel =>
            refine ⟨k + 1, by omega, rfl, by go_num, fun j c hj hc => ?_, Below.drew (unhide HY).2⟩
            by_cases hjk : j < k
            · exact (unhide HY).1 j c hjk hc
            · have : j = k := by omega
              subst this
              have := hc.symm.trans (unhide HX)
              cases this
              exact unhide HE
        · have hne : ((x.names.length : Int) != (x.meths.length : Int)) = true := by simp; omega
          clear he
          go_wp2_with fail
          refine wp_region_held_drew (S := (fun w' => w'.cell? ⟨w.heap.size, 2, none⟩ = some (.slice (some ⟨gb, go, none⟩) m.classes.length capk) ∧ w'.cell? ⟨gb, go + k * 5 + 3, none⟩ = some (.slice g3 x.names.length d3) ∧ w'.cell? ⟨gb, go + k * 5 + 4, none⟩ = some (.slice g4 x.meths.length d4))) (by kernel_rfl) ⟨m2, c3, c4⟩ (fun hHeld => ?_)
          refine wpAnyH_take (i := 0) (oi := { dst := some 23, op := _, type := _, pos := _, after := _, guard := _ }) (v := ?_) rfl (by kernel_rfl) (by kernel_rfl) (by kernel_rfl) (fun _ _ _ h => h) (Or.inl ⟨by rfl, ?_⟩) (by assumption) ?_
          case refine_2 =>
            intro w hSw
            try dsimp only at hSw
            go_simp
            try with_reducible rfl
          simp only [Act.put, List.setIfInBounds_toArray, List.set_cons_zero, List.set_cons_succ]
          refine wpAnyH_take (i := 1) (oi := { dst := some 24, op := _, type := _, pos := _, after := _, guard := _ }) (v := ?_) rfl (by kernel_rfl) (by kernel_rfl) (by kernel_rfl) (fun _ _ _ h => h) (Or.inl ⟨by rfl, ?_⟩) (by assumption) ?_
          case refine_2 =>
            intro w hSw
            try dsimp only at hSw
            go_simp
            try with_reducible rfl
          simp only [Act.put, List.setIfInBounds_toArray, List.set_cons_zero, List.set_cons_succ]
          refine wpAnyH_take (i := 2) (oi := { dst := some 25, op := _, type := _, pos := _, after := _, guard := _ }) (v := ?_) rfl (by kernel_rfl) (by kernel_rfl) (by kernel_rfl) (fun _ _ _ h => h) (Or.inl ⟨by rfl, ?_⟩) (by assumption) ?_
          case refine_2 =>
            intro w hSw
            try dsimp only at hSw
            go_simp
            try with_reducible rfl
          simp only [Act.put, List.setIfInBounds_toArray, List.set_cons_zero, List.set_cons_succ]
          refine wpAnyH_take (i := 3) (oi := { dst := some 26, op := _, type := _, pos := _, after := _, guard := _ }) (v := ?_) rfl (by kernel_rfl) (by kernel_rfl) (by kernel_rfl) (fun _ _ _ h => h) (Or.inl ⟨by rfl, ?_⟩) (by assumption) ?_
          case refine_2 =>
            intro w hSw
            try dsimp only at hSw
            go_simp
            try with_reducible rfl
          simp only [Act.put, List.setIfInBounds_toArray, List.set_cons_zero, List.set_cons_succ]
          refine wpAnyH_take (i := 4) (oi := { dst := some 27, op := _, type := _, pos := _, after := _, guard := _ }) (v := ?_) rfl (by kernel_rfl) (by kernel_rfl) (by kernel_rfl) (fun _ _ _ h => h) (Or.inl ⟨by rfl, ?_⟩) (by assumption) ?_
          case refine_2 =>
            intro w hSw
            try dsimp only at hSw
            go_simp
            try with_reducible rfl
          simp only [Act.put, List.setIfInBounds_toArray, List.set_cons_zero, List.set_cons_succ]
          refine wpAnyH_take (i := 5) (oi := { dst := some 28, op := _, type := _, pos := _, after := _, guard := _ }) (v := ?_) rfl (by kernel_rfl) (by kernel_rfl) (by kernel_rfl) (fun _ _ _ h => h) (Or.inl ⟨by rfl, ?_⟩) (by assumption) ?_
          case refine_2 =>
            intro w hSw
            try dsimp only at hSw
            go_simp
            try with_reducible rfl
          simp only [Act.put, List.setIfInBounds_toArray, List.set_cons_zero, List.set_cons_succ]
          refine wpAnyH_take (i := 6) (oi := { dst := some 29, op := _, type := _, pos := _, after := _, guard := _ }) (v := ?_) rfl (by kernel_rfl) (by kernel_rfl) (by kernel_rfl) (fun _ _ _ h => h) (Or.inl ⟨by rfl, ?_⟩) (by assumption) ?_
          case refine_2 =>
            intro w hSw
            try dsimp only at hSw
            go_simp
            try with_reducible rfl
          simp only [Act.put, List.setIfInBounds_toArray, List.set_cons_zero, List.set_cons_succ]
          refine wpAnyH_take (i := 7) (oi := { dst := some 30, op := _, type := _, pos := _, after := _, guard := _ }) (v := ?_) rfl (by kernel_rfl) (by kernel_rfl) (by kernel_rfl) (fun _ _ _ h => h) (Or.inl ⟨by rfl, ?_⟩) (by assumption) ?_
          case refine_2 =>
            intro w hSw
            try dsimp only at hSw
            go_simp
            try with_reducible rfl
          simp only [Act.put, List.setIfInBounds_toArray, List.set_cons_zero, List.set_cons_succ]
          refine wpAnyH_take (i := 8) (oi := { dst := some 31, op := _, type := _, pos := _, after := _, guard := _ }) (v := ?_) rfl (by kernel_rfl) (by kernel_rfl) (by kernel_rfl) (fun _ _ _ h => h) (Or.inl ⟨by rfl, ?_⟩) (by assumption) ?_
          case refine_2 =>
            intro w hSw
            try dsimp only at hSw
            go_simp
            try with_reducible rfl
          simp only [Act.put, List.setIfInBounds_toArray, List.set_cons_zero, List.set_cons_succ]
          refine wpAnyH_take (i := 9) (oi := { dst := some 32, op := _, type := _, pos := _, after := _, guard := _ }) (v := ?_) rfl (by kernel_rfl) (by kernel_rfl) (by kernel_rfl) (fun _ _ _ h => h) (Or.inl ⟨by rfl, ?_⟩) (by assumption) ?_
          case refine_2 =>
            intro w hSw
            try dsimp only at hSw
            go_simp
            try with_reducible rfl
          simp only [Act.put, List.setIfInBounds_toArray, List.set_cons_zero, List.set_cons_succ]
          refine wpAnyH_take (i := 10) (oi := { dst := some 33, op := _, type := _, pos := _, after := _, guard := _ }) (v := ?_) rfl (by kernel_rfl) (by kernel_rfl) (by kernel_rfl) (fun _ _ _ h => h) (Or.inl ⟨by rfl, ?_⟩) (by assumption) ?_
          case refine_2 =>
            intro w hSw
            try dsimp only at hSw
            go_simp
            try with_reducible rfl
          simp only [Act.put, List.setIfInBounds_toArray, List.set_cons_zero, List.set_cons_succ]
          refine wpAnyH_take (i := 11) (oi := { dst := some 34, op := _, type := _, pos := _, after := _, guard := _ }) (v := ?_) rfl (by kernel_rfl) (by kernel_rfl) (by kernel_rfl) (fun _ _ _ h => h) (Or.inl ⟨by rfl, ?_⟩) (by assumption) ?_
          case refine_2 =>
            intro w hSw
            try dsimp only at hSw
            go_simp
            try with_reducible rfl
          simp only [Act.put, List.setIfInBounds_toArray, List.set_cons_zero, List.set_cons_succ]
          refine wpAnyH_take (i := 12) (oi := { dst := some 35, op := _, type := _, pos := _, after := _, guard := _ }) (v := ?_) rfl (by kernel_rfl) (by kernel_rfl) (by kernel_rfl) (fun _ _ _ h => h) (Or.inl ⟨by rfl, ?_⟩) (by assumption) ?_
          case refine_2 =>
            intro w hSw
            try dsimp only at hSw
            go_simp
            try with_reducible rfl
          simp only [Act.put, List.setIfInBounds_toArray, List.set_cons_zero, List.set_cons_succ]
          refine wpAnyH_take (i := 13) (oi := { dst := some 36, op := _, type := _, pos := _, after := _, guard := _ }) (v := ?_) rfl (by kernel_rfl) (by kernel_rfl) (by kernel_rfl) (fun _ _ _ h => h) (Or.inl ⟨by rfl, ?_⟩) (by assumption) ?_
          case refine_2 =>
            intro w hSw
            try dsimp only at hSw
            go_simp
            try with_reducible rfl
          simp only [Act.put, List.setIfInBounds_toArray, List.set_cons_zero, List.set_cons_succ]
          refine wpAnyH_take (i := 14) (oi := { dst := some 37, op := _, type := _, pos := _, after := _, guard := _ }) (v := ?_) rfl (by kernel_rfl) (by kernel_rfl) (by kernel_rfl) (fun _ _ _ h => h) (Or.inl ⟨by rfl, ?_⟩) (by assumption) ?_
          case refine_2 =>
            intro w hSw
            try dsimp only at hSw
            go_simp
            try with_reducible rfl
          simp only [Act.put, List.setIfInBounds_toArray, List.set_cons_zero, List.set_cons_succ]
          refine wpAnyH_done (by kernel_rfl) ?_ _
          clear m2 c3 c4 hne
          go_wp2_with fail
          go_ret
          exact ⟨rfl, Below.drew (unhide HBR)⟩
      · have hk2 : ¬ (k : Int) < (m.classes.length : Int) := by omega
        have HOW := hide ((unhide HNUM).w (fun j c hj hc => (unhide HY).1 j c (by omega) hc))
        have m2 := (unhide HMR).c2
        rename World => V
        have HFV := hide (((unhide HY).2.block w4.heap.size (hlt (unhide HFB))).trans (unhide HFB))
        go_wp2_with fail
        clear m2
        refine (image_any (unhide HMR) bK bF bL).mono ?_
        rintro e w5 ⟨hb5, i5, vf5, vc5, vk5, rfl, hi5⟩
        have HB5 := hide ((unhide HBR).trans (hb5.mono (unhide HBR).size))
        have HM5 := hide ((unhide HMR).keep hb5)
        have HF5 := hide ((hb5.block w4.heap.size (hlt (unhide HFV))).trans (unhide HFV))
        have HI5 := hide hi5
        clear hb5 hi5
        go_wp2_with fail
        refine (encode_any (unhide HI5) (unhide HOW) (encImg_byte m) (unhide HLEN)).mono ?_
        rintro e w6 ⟨v6, rfl, hb6, ho6⟩
        obtain ⟨g6, cap6, rfl, hy6⟩ := bytes_of_owns ho6 (encImg_byte m)
        have HB6 := hide ((unhide HB5).trans (hb6.mono (unhide HB5).size))
        have HM6 := hide ((unhide HM5).keep hb6)
        have HF6 := hide ((hb6.block w4.heap.size (hlt (unhide HF5))).trans (unhide HF5))
        have HY6 := hide hy6
        clear hb6 ho6 hy6
        go_wp2_with fail
        refine (cencode_any (unhide HM6) (unhide HOW) (unhide HLEN)).mono ?_
        rintro e w7 ⟨v7, rfl, hb7, ho7⟩
        obtain ⟨g7, cap7, rfl, hy7⟩ := bytes_of_owns ho7 (encImg_byte m)
        have HB7 := hide ((unhide HB6).trans (hb7.mono (unhide HB6).size))
        have HM7 := hide ((unhide HM6).keep hb7)
        have HF7 := hide ((hb7.block w4.heap.size (hlt (unhide HF6))).trans (unhide HF6))
        have HY7 := hide ((unhide HY6).keep hb7)
        have HZ7 := hide hy7
        have HC7 := hide (owns_cap ho7)
        have s6 := bytes_str (unhide HY7) cap6
        have s7 := bytes_str hy7 cap7
        clear hb7 ho7 hy7
        go_wp2_with fail
        have hcap7 := unhide HC7
        refine (cencode_nil w7).mono ?_
        rintro e W7 ⟨rfl, hW7⟩
        rw [hW7]
        clear hW7
        go_wp2_with fail
        clear s6 s7
        go_loopg [7] m.consts.length (fun gg i wr => ∃ (k : Nat), k ≤ m.consts.length ∧ gg = m.consts.length - k ∧ i = .int .i64 k ∧ Hid ((∀ (j : Nat) c, j < k → m.consts[j]? = some c → canon c) ∧ Below w7.heap.size w7 wr))
        case atStart => exact ⟨0, Nat.zero_le _, rfl, rfl, (fun j c hj => absurd hj (Nat.not_lt_zero j)), Below.refl _ _⟩
        case round =>
          obtain ⟨k, hk, rfl, rfl, HY2⟩ := hrel
          have HMR2 := hide ((unhide HM7).keep (unhide HY2).2)
          have HBR2 := hide ((unhide HB7).trans ((unhide HY2).2.mono (unhide HB7).size))
          by_cases hlk2 : k < m.consts.length
          · have hk2 : (k : Int) < (m.consts.length : Int) := by omega
            obtain ⟨x, hx⟩ : ∃ x, m.consts[k]? = some x := ⟨m.consts[k], List.getElem?_eq_getElem hlk2⟩
            obtain ⟨gb, go, rfl, hcs⟩ := (unhide HRC).keep (unhide HBR2) k hlk2
            have c0 : wr.cell? ⟨gb, go + k * 3, none⟩ = some (.bool x.text) := by
              have := hcs 0 (by omega)
              rw [constRow, hx] at this
              simpa using this
            have c1 : wr.cell? ⟨gb, go + k * 3 + 1, none⟩ = some (.string x.s) := by
              have := hcs 1 (by omega)
              rw [constRow, hx] at this
              simpa using this
            have c2 : wr.cell? ⟨gb, go + k * 3 + 2, none⟩ = some (.int .i64 x.n) := by
              have := hcs 2 (by omega)
              rw [constRow, hx] at this
              simpa using this
            have m1 : wr.cell? ⟨w.heap.size, 1, none⟩ = some (.slice (some ⟨gb, go, none⟩) m.consts.length capc) := (unhide HMR2).c1
            have HX := hide hx
            have HAL := hide (fun o => (unhide HY2).2.alloc (unhide HY2).2.size o)
            have HBL := hide (fun o => (unhide HBR2).alloc (unhide HBR2).size o)
            have HST := hide (show canon x → ∀ (j : Nat) c, j < k + 1 → m.consts[j]? = some c → canon c from fun hcx j c hj hc => by
              by_cases hjk : j < k
              · exact (unhide HY2).1 j c hjk hc
              · have : j = k := by omega
                subst this
                have := hc.symm.trans (unhide HX)
                cases this
                exact hcx)
            clear hx hcs
            cases htx : x.text with
            | true =>
              rw [htx] at c0
              by_cases hn : x.n = 0
              · rw [hn] at c2
                have HCX := hide (show canon x from ⟨fun _ => hn, fun q => by rw [htx] at q; cases q⟩)
                clear hn htx
                go_wp2_with fail
                go_roundg (m.consts.length - (k + 1))
                case measure => omega
                case rel => exact ⟨k + 1, by omega, rfl, by go_num, unhide HST (unhide HCX), unhide HAL _⟩
              · have hn1 : (x.n != 0) = true := by simpa using hn
                have hn2 : (x.n == 0) = false := by simpa using hn
                clear hn htx
                go_wp2_with fail
                go_ret
                exact ⟨rfl, unhide HBL _⟩
            | false =>
              rw [htx] at c0
              by_cases hn : x.s = ⟨#[]⟩
              · rw [hn] at c1
                have HCX := hide (show canon x from ⟨(fun q => by rw [htx] at q; cases q), fun _ => hn⟩)
                clear hn htx
                go_wp2_with fail
                go_roundg (m.consts.length - (k + 1))
                case measure => omega
                case rel => exact ⟨k + 1, by omega, rfl, by go_num, unhide HST (unhide HCX), unhide HAL _⟩
              · have hn1 : ¬ x.s.toList = [] := fun q => hn (ba_nil q)
                have hn2 : (x.s.toList == []) = false := by simpa using hn1
                clear htx hn
                go_wp2_with fail
                go_ret
                exact ⟨rfl, unhide HBL _⟩
          · have hk2 : ¬ (k : Int) < (m.consts.length : Int) := by omega
            have HOM := hide ((unhide HOW).m (fun j c hj hc => (unhide HY2).1 j c (by omega) hc))
            have m1 := (unhide HMR2).c1
            rename World => V2
            have HF8 := hide (((unhide HY2).2.block w4.heap.size (hlt (unhide HF7))).trans (unhide HF7))
            have HY8 := hide ((unhide HY7).keep (unhide HY2).2)
            have HZ8 := hide ((unhide HZ7).keep (unhide HY2).2)
            by_cases hbig : 100000 < (encImg m).length
            · have hb2 : (100000 : Int) < ((encImg m).length : Int) := by omega
              go_wp2_with fail
              clear m1
              refine (decode_big hbig).mono ?_
              rintro e W8 ⟨rfl, hW8⟩
              rw [hW8]
              clear hW8
              go_wp2_with fail
              refine (lawBare_any (n := 4) (p := -1) (Or.inr (Or.inl ⟨rfl, rfl⟩)) ((unhide HT).keep (unhide HBR2)) 4).mono ?_
              rintro e w9 ⟨rfl, hb9⟩
              have HB9 := hide ((unhide HBR2).trans (hb9.mono (unhide HBR2).size))
              have h44 : (((4 : Int) == 4) && ((-1 : Int) == -1)) = true := by decide
              rw [h44]
              clear hb9
              go_wp2_with fail
              go_ret
              exact ⟨rfl, unhide HB9⟩
            · have hb2 : ¬ (100000 : Int) < ((encImg m).length : Int) := by omega
              go_wp2_with fail
              clear m1
              refine (decode_any (unhide HZ8) cap7 hcap7 (by omega)).mono ?_
              rintro e w8 ⟨hb8, ⟨v, n, p, rfl, he, hv, _, hn, hver⟩ | ⟨_, ib8, m8, vf8, vc8, vk8, rfl, him, hok8, hvd, hlm⟩⟩
              · obtain ⟨rfl, rfl⟩ := (hver (by omega) m (unhide HOM) rfl).one (unhide HV)
                have HB8 := hide ((unhide HBR2).trans (hb8.mono (unhide HBR2).size))
                have hf8 := (hb8.block w4.heap.size (hlt (unhide HF8))).trans (unhide HF8)
                have HE8 := hide he
                have k0 : w8.cell? ⟨w4.heap.size, 0, none⟩ = some (.int .i64 n) := hcell hf8 0
                have k1 : w8.cell? ⟨w4.heap.size, 1, none⟩ = some (.int .i64 p) := hcell hf8 1
                have hn0 : (n != 0) = true := by simp; omega
                have hn1 : (n == 0) = false := by simp; omega
                clear hb8 he hv hn hver hf8 hcap7 hbig
                obtain ⟨L, hLL⟩ : ∃ L, (encImg m).length = L := ⟨_, rfl⟩
                rw [hLL] at hb2 ⊢
                clear hLL
                go_wp2_with fail
                refine (at_any (unhide HE8) ((unhide HT).keep (unhide HB8)) n p).mono ?_
                rintro e w9 ⟨rfl, hb9⟩
                have HB9 := hide ((unhide HB8).trans (hb9.mono (unhide HB8).size))
                have hnn : ((n == n) && (p == p)) = true := by simp
                rw [hnn]
                clear hb9 k0 k1
                go_wp2_with fail
                go_ret
                exact ⟨rfl, unhide HB9⟩
              · obtain rfl := encImg_inj (unhide HOM) hok8 hlm
                obtain ⟨hq1, hq2⟩ := hvd.one (unhide HV)
                have HB8 := hide ((unhide HBR2).trans (hb8.mono (unhide HBR2).size))
                have hf8 := (hb8.block w4.heap.size (hlt (unhide HF8))).trans (unhide HF8)
                rw [← hq1] at hf8
                have k0 : w8.cell? ⟨w4.heap.size, 0, none⟩ = some (.int .i64 0) := hcell hf8 0
                have HI8 := hide him
                have HYA := hide ((unhide HY8).keep hb8)
                have q1 := eqlNil0
                clear hb8 him hok8 hvd hlm hf8 hq1 hq2 hcap7 hbig
                obtain ⟨L, hLL⟩ : ∃ L, (encImg m).length = L := ⟨_, rfl⟩
                rw [hLL] at hb2 ⊢
                have HLL := hide hLL
                clear hLL
                go_wp2_with fail
                have hLL := unhide HLL
                subst hLL
                clear k0
                have HIA := hide ((unhide HI8).keep (Below.drew (Below.refl _ _)))
                have HYB := hide ((unhide HYA).keep (Below.drew (Below.refl _ _)))
                have HB9 := hide (Below.drew (unhide HB8))
                refine wp_region_held_drew (S := fun w' => (convert 39 9 (.slice g6 (encImg m).length cap6)).run Tryz.prog w' = .ok (.string (strOfNums (encImg m))) w') (by kernel_rfl) (bytes_str (unhide HYB) cap6) (fun hHeld => ?_)
                refine wpAnyH_take (i := 0) (oi := { dst := some 104, op := _, type := _, pos := _, after := _, guard := _ }) (v := ?_) rfl (by kernel_rfl) (by kernel_rfl) (by kernel_rfl) (fun _ _ _ h => h) (Or.inl ⟨by rfl, ?_⟩) (by assumption) ?_
                case refine_2 =>
                  intro w hSw
                  try dsimp only at hSw
                  go_simp
                  try with_reducible rfl
                simp only [Act.put, List.setIfInBounds_toArray, List.set_cons_zero, List.set_cons_succ]
                refine wpAnyH_take (i := 1) (oi := { dst := some 105, op := _, type := _, pos := _, after := _, guard := _ }) (v := ?_) rfl (by kernel_rfl) (by kernel_rfl) (by kernel_rfl) (fun _ _ _ h => h) (Or.inl ⟨by rfl, ?_⟩) (by assumption) ?_
                case refine_2 =>
                  intro w hSw
                  try dsimp only at hSw
                  go_simp
                  try with_reducible rfl
                simp only [Act.put, List.setIfInBounds_toArray, List.set_cons_zero, List.set_cons_succ]
                refine wpAnyH_take (i := 2) (oi := { dst := some 106, op := _, type := _, pos := _, after := _, guard := _ }) (v := ?_) rfl (by kernel_rfl) (by kernel_rfl) (by kernel_rfl) (fun _ _ _ h => h) (Or.inl ⟨by rfl, ?_⟩) (by assumption) ?_
                case refine_2 =>
                  intro w hSw
                  try dsimp only at hSw
                  go_simp
                  try with_reducible rfl
                simp only [Act.put, List.setIfInBounds_toArray, List.set_cons_zero, List.set_cons_succ]
                refine wpAnyH_take (i := 3) (oi := { dst := some 107, op := _, type := _, pos := _, after := _, guard := _ }) (v := ?_) rfl (by kernel_rfl) (by kernel_rfl) (by kernel_rfl) (fun _ _ _ h => h) (Or.inl ⟨by rfl, ?_⟩) (by assumption) ?_
                case refine_2 =>
                  intro w hSw
                  try dsimp only at hSw
                  go_simp
                  try with_reducible rfl
                simp only [Act.put, List.setIfInBounds_toArray, List.set_cons_zero, List.set_cons_succ]
                refine wpAnyH_take (i := 4) (oi := { dst := some 108, op := _, type := _, pos := _, after := _, guard := _ }) (v := ?_) rfl (by kernel_rfl) (by kernel_rfl) (by kernel_rfl) (fun _ _ _ h => h) (Or.inl ⟨by rfl, ?_⟩) (by assumption) ?_
                case refine_2 =>
                  intro w hSw
                  try dsimp only at hSw
                  go_simp
                  try with_reducible rfl
                simp only [Act.put, List.setIfInBounds_toArray, List.set_cons_zero, List.set_cons_succ]
                refine wpAnyH_take (i := 5) (oi := { dst := some 109, op := _, type := _, pos := _, after := _, guard := _ }) (v := ?_) rfl (by kernel_rfl) (by kernel_rfl) (by kernel_rfl) (fun _ _ _ h => h) (Or.inl ⟨by rfl, ?_⟩) (by assumption) ?_
                case refine_2 =>
                  intro w hSw
                  try dsimp only at hSw
                  go_simp
                  try with_reducible rfl
                simp only [Act.put, List.setIfInBounds_toArray, List.set_cons_zero, List.set_cons_succ]
                refine wpAnyH_take (i := 6) (oi := { dst := some 110, op := _, type := _, pos := _, after := _, guard := _ }) (v := ?_) rfl (by kernel_rfl) (by kernel_rfl) (by kernel_rfl) (fun _ _ _ h => h) (Or.inl ⟨by rfl, ?_⟩) (by assumption) ?_
                case refine_2 =>
                  intro w hSw
                  try dsimp only at hSw
                  go_simp
                  try with_reducible rfl
                simp only [Act.put, List.setIfInBounds_toArray, List.set_cons_zero, List.set_cons_succ]
                refine wpAnyH_take (i := 7) (oi := { dst := some 111, op := _, type := _, pos := _, after := _, guard := _ }) (v := ?_) rfl (by kernel_rfl) (by kernel_rfl) (by kernel_rfl) (fun _ _ _ h => h) (Or.inl ⟨by rfl, ?_⟩) (by assumption) ?_
                case refine_2 =>
                  intro w hSw
                  try dsimp only at hSw
                  go_simp
                  try with_reducible rfl
                simp only [Act.put, List.setIfInBounds_toArray, List.set_cons_zero, List.set_cons_succ]
                refine wpAnyH_take (i := 11) (oi := { dst := some 115, op := _, type := _, pos := _, after := _, guard := _ }) (v := ?_) rfl (by kernel_rfl) (by kernel_rfl) (by kernel_rfl) (fun _ _ _ h => h) (Or.inl ⟨by rfl, ?_⟩) (by assumption) ?_
                case refine_2 =>
                  intro w hSw
                  try dsimp only at hSw
                  go_simp
                  try with_reducible rfl
                simp only [Act.put, List.setIfInBounds_toArray, List.set_cons_zero, List.set_cons_succ]
                refine wpAnyH_take (i := 12) (oi := { dst := some 116, op := _, type := _, pos := _, after := _, guard := _ }) (v := ?_) rfl (by kernel_rfl) (by kernel_rfl) (by kernel_rfl) (fun _ _ _ h => h) (Or.inl ⟨by rfl, ?_⟩) (by assumption) ?_
                case refine_2 =>
                  intro w hSw
                  try dsimp only at hSw
                  go_simp
                  try with_reducible rfl
                simp only [Act.put, List.setIfInBounds_toArray, List.set_cons_zero, List.set_cons_succ]
                refine wpAnyH_ready (rs := [8]) (by kernel_rfl) (by simp) ?_
                refine AllReadyH.cons (o := { dst := some 112, op := _, type := _, pos := _, after := _, guard := _ }) rfl (fun K hK => ?_) AllReadyH.nil
                go_simp
                refine (image_any (unhide HIA) bK bF bL).mono ?_
                rintro e wA ⟨hbA, iA, vfA, vcA, vkA, rfl, hiA⟩
                have HBA := hide ((unhide HB9).trans (hbA.mono (unhide HB9).size))
                have HIB := hide hiA
                have HYC := hide ((unhide HYB).keep hbA)
                clear hbA hiA
                refine hK.out _ _ (bytes_str (unhide HYC) cap6) (fun hHeldA => ?_)
                clear hK K
                refine wpAnyH_ready (rs := [9]) (by kernel_rfl) (by simp) ?_
                refine AllReadyH.cons (o := { dst := some 113, op := _, type := _, pos := _, after := _, guard := _ }) rfl (fun K hK => ?_) AllReadyH.nil
                go_simp
                refine (encode_any (unhide HIB) (unhide HOW) (encImg_byte m) (unhide HLEN)).mono ?_
                rintro e wB ⟨vB, rfl, hbB, hoB⟩
                obtain ⟨gB, capB, rfl, hyB⟩ := bytes_of_owns hoB (encImg_byte m)
                have HBB := hide ((unhide HBA).trans (hbB.mono (unhide HBA).size))
                have HYD := hide ((unhide HYC).keep hbB)
                have hstr := bytes_str hyB capB
                clear hbB hoB hyB
                refine hK.out _ _ (bytes_str (unhide HYD) cap6) (fun hHeldB => ?_)
                clear hK K
                refine wpAnyH_ready (rs := [10]) (by kernel_rfl) (by simp) ?_
                refine AllReadyH.cons (o := { dst := some 114, op := _, type := _, pos := _, after := _, guard := _ }) rfl (fun K hK => ?_) AllReadyH.nil
                go_simp
                refine hK.out _ _ (by assumption) (fun hHeldC => ?_)
                clear hK K hstr
                refine wpAnyH_take (i := 13) (oi := { dst := some 117, op := _, type := _, pos := _, after := _, guard := _ }) (v := ?_) rfl (by kernel_rfl) (by kernel_rfl) (by kernel_rfl) (fun _ _ _ h => h) (Or.inl ⟨by rfl, ?_⟩) (by assumption) ?_
                case refine_2 =>
                  intro w hSw
                  try dsimp only at hSw
                  go_simp
                  try with_reducible rfl
                simp only [Act.put, List.setIfInBounds_toArray, List.set_cons_zero, List.set_cons_succ]
                refine wpAnyH_take (i := 14) (oi := { dst := some 118, op := _, type := _, pos := _, after := _, guard := _ }) (v := ?_) rfl (by kernel_rfl) (by kernel_rfl) (by kernel_rfl) (fun _ _ _ h => h) (Or.inl ⟨by rfl, ?_⟩) (by assumption) ?_
                case refine_2 =>
                  intro w hSw
                  try dsimp only at hSw
                  go_simp
                  try with_reducible rfl
                simp only [Act.put, List.setIfInBounds_toArray, List.set_cons_zero, List.set_cons_succ]
                refine wpAnyH_take (i := 15) (oi := { dst := some 2, op := _, type := _, pos := _, after := _, guard := _ }) (v := ?_) rfl (by kernel_rfl) (by kernel_rfl) (by kernel_rfl) (fun _ _ _ h => h) (Or.inl ⟨by rfl, ?_⟩) (by assumption) ?_
                case refine_2 =>
                  intro w hSw
                  try dsimp only at hSw
                  go_simp
                  try with_reducible rfl
                simp only [Act.put, List.setIfInBounds_toArray, List.set_cons_zero, List.set_cons_succ]
                refine wpAnyH_done (by kernel_rfl) ?_ _
                go_wp2_with fail
                go_ret
                exact ⟨rfl, unhide HBB⟩
end Go.Proofs.YtkafldkhmkdafaaGreatDoor
