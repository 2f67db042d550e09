/-
  The ways through a function's code, walked.
  Whether an image may be run, by the program.
  Images that are small enough to be held.
  An image is made anew: rows that grow.
-/
import Derived.Test.YtkafldkhmkdafaaDoorM05
import Derived.Deep.OwnRows
namespace Go.Proofs.YtkafldkhmkdafaaDoor
open Go.RowKit

/-- The values' row while it is being made: so many are -1. -/
def madeTo (N k : Nat) : Array Value := ((List.range N).map fun p => if p < k then Value.int .i64 (-1) else .int .i64 0).toArray
theorem madeTo_zero (N : Nat) : madeCells #[.int .i64 0] N = madeTo N 0 := by
  apply Array.ext_getElem?
  intro i
  by_cases h : i < N
  · simp [madeCells, madeTo, h, Nat.mod_one]
  · simp [madeCells, madeTo, h]
theorem madeTo_size (N k : Nat) : (madeTo N k).size = N := by simp [madeTo]
theorem madeTo_get {N k p : Nat} (h : p < N) : (madeTo N k)[p]? = some (if p < k then .int .i64 (-1) else .int .i64 0) := by
  simp [madeTo, h]
theorem madeTo_set (N k : Nat) : (madeTo N k).setIfInBounds k (.int .i64 (-1)) = madeTo N (k + 1) := by
  apply Array.ext_getElem?
  intro i
  rw [Array.getElem?_setIfInBounds]
  by_cases hi : i < N
  · rw [madeTo_get hi, madeTo_get hi]
    by_cases e : k = i
    · subst e
      rw [if_pos rfl, if_pos (by rw [madeTo_size]; exact hi), if_pos (by omega)]
    · rw [if_neg e]
      by_cases h : i < k
      · rw [if_pos h, if_pos (by omega)]
      · rw [if_neg h, if_neg (by omega)]
  · have h1 : (madeTo N k)[i]? = none := Array.getElem?_eq_none (by rw [madeTo_size]; omega)
    have h2 : (madeTo N (k + 1))[i]? = none := Array.getElem?_eq_none (by rw [madeTo_size]; omega)
    rw [h1, h2]
    by_cases e : k = i
    · subst e
      rw [if_pos rfl, if_neg (by rw [madeTo_size]; exact hi)]
    · rw [if_neg e]
theorem madeTo_all (N : Nat) : madeTo N N = notedCells N (fun _ => none) := by
  apply Array.ext_getElem?
  intro i
  by_cases hi : i < N
  · rw [madeTo_get hi, notedCells_get hi, if_pos hi]; rfl
  · rw [Array.getElem?_eq_none (by rw [madeTo_size]; omega), Array.getElem?_eq_none (by rw [notedCells_size]; omega)]

/-- The struct and its row while that is being made. -/
structure Made (w wr : World) (vcode : Value) (N k : Nat) : Prop where
  below : Below w.heap.size w wr
  blk : ∃ t, wr.heap[w.heap.size + 1]? = some (.cells #[vcode, .slice (some ⟨w.heap.size, 0, none⟩) N N, .slice none 0 0] t (0, 0))
  row : ∃ t, wr.heap[w.heap.size]? = some (.cells (madeTo N k) t (0, 0))

theorem made_start {w : World} {vcode : Value} {N : Nat} {t1 t2 : TypeId} : Made w ((w.alloc (.cells (madeCells #[.int .i64 0] N) t1)).alloc (.cells #[vcode, .slice (some ⟨w.heap.size, 0, none⟩) N N, .slice none 0 0] t2)) vcode N 0 := by
  have h1 : (w.alloc (.cells (madeCells #[.int .i64 0] N) t1)).heap.size = w.heap.size + 1 := by simp
  refine ⟨((Below.refl _ _).alloc (Nat.le_refl _) _).alloc (by omega) _, ⟨t2, ?_⟩, ⟨t1, ?_⟩⟩
  · rw [← h1]; exact hnew _ _
  · rw [Below.heap_alloc _ _ _ (by omega), ← madeTo_zero]; exact hnew _ _
theorem Made.drewN {w wr : World} {vcode : Value} {N k : Nat} (h : Made w wr vcode N k) (n : Nat) : Made w (wr.drewN n) vcode N k := ⟨Bl.drewN h.below n, h.blk, h.row⟩
theorem Made.drew {w wr : World} {vcode : Value} {N k : Nat} (h : Made w wr vcode N k) : Made w wr.drew vcode N k := ⟨h.below.drew, h.blk, h.row⟩
theorem Made.step {w wr : World} {vcode : Value} {N k : Nat} (h : Made w wr vcode N k) : Made w (wr.setCell ⟨w.heap.size, k, none⟩ (.int .i64 (-1))) vcode N (k + 1) := by
  obtain ⟨h1, ⟨t2, h2⟩, ⟨t3, h3⟩⟩ := h
  exact ⟨h1.setCell (p := ⟨w.heap.size, k, none⟩) (Nat.le_refl _) _, ⟨t2, (hother _ (by omega)).trans h2⟩, ⟨t3, by rw [hset h3, madeTo_set]⟩⟩
theorem unset_none : ∀ N, unset (fun _ => none) N = N
  | 0 => rfl
  | n + 1 => by unfold unset; rw [unset_none n]; simp
theorem Made.going {w wr : World} {vcode : Value} {c : List PI} {hs : List PH} (h : Made w wr vcode c.length c.length) : Going w.heap.size c hs wr (w.heap.size + 1) w.heap.size vcode (fun _ => none) (fun _ => none) c.length c.length [] (.slice none 0 0) := by
  obtain ⟨h1, ⟨t2, h2⟩, ⟨t3, h3⟩⟩ := h
  rw [madeTo_all] at h3
  refine ⟨⟨by omega, Nat.le_refl _, by omega, fun j hj => by simp [Value.ownBlock] at hj, ⟨t2, h2⟩, ⟨t3, h3⟩, rfl, Or.inl ⟨rfl, rfl⟩⟩, ⟨⟨fun p n h => (by cases h), fun p n h => (by cases h)⟩, fun p hp => (by cases hp), fun p hp => absurd rfl hp⟩, Mono.refl _, by rw [unset_none]; rfl⟩

/-- Whoever is being gone on from, where nobody is. -/
theorem Going.book' {B : Nat} {c : List PI} {hs : List PH} {w : World} {r vb : Nat} {vcode vopen : Value} {f0 f : Nat → Option Nat} {u : Nat} {o : List Nat} (h : Going B c hs w r vb vcode f0 f u c.length o vopen) : Book c hs f o := by
  refine h.book.close fun n i hn _ => ?_
  have := (h.book.known.bound _ _ hn).1
  omega
theorem Going.of_book {B : Nat} {c : List PI} {hs : List PH} {w : World} {r vb : Nat} {vcode vopen : Value} {f0 f : Nat → Option Nat} {u x : Nat} {o : List Nat} (h1 : WaysAt B w r vb vcode vopen c.length f o) (h2 : Book c hs f o) (h3 : Mono f0 f) (h4 : unset f c.length + o.length = u) : Going B c hs w r vb vcode f0 f u x o vopen :=
  ⟨h1, ⟨h2.known, h2.opened, fun p a b _ => h2.done p a b⟩, h3, h4⟩

theorem WaysAt.pop {B : Nat} {w : World} {r vb : Nat} {vcode vopen : Value} {N : Nat} {f : Nat → Option Nat} {o : List Nat} {x : Nat} (h : WaysAt B w r vb vcode vopen N f (o ++ [x])) :
    ∃ g cap, vopen = .slice (some ⟨g, 0, none⟩) (o.length + 1) cap ∧ o.length + 1 ≤ cap ∧ cap ≤ maxLen ∧ w.cell? ⟨g, o.length, none⟩ = some (.int .i64 x) ∧ WaysAt B (w.setCell ⟨r, 2, none⟩ (.slice (some ⟨g, 0, none⟩) o.length cap)) r vb vcode (.slice (some ⟨g, 0, none⟩) o.length cap) N f o := by
  obtain ⟨r0, vb0, ne, ro, ⟨t1, b1⟩, ⟨t2, b2⟩, hop⟩ := h
  rcases hop.2 with ⟨_, h⟩ | ⟨g, cap, cur, h1, h2, h3, h4, h5, h6, h7⟩
  · simp at h
  · have hl : (o ++ [x]).length = o.length + 1 := by simp
    rw [hl] at h1 h4 h7
    obtain ⟨q1, q2, q3⟩ := ro g (by rw [h1]; rfl)
    have h7' : cur.toList.take (o.length + 1) = o.map natV ++ [natV x] := by rw [Nat.mul_one] at h7; rw [h7]; simp
    refine ⟨g, cap, h1, h4, h5, ?_, ⟨r0, vb0, ne, fun j hj => ?_, ⟨t1, by rw [hset b1]; rfl⟩, ⟨t2, (hother _ ne).trans b2⟩, by simp, ?_⟩⟩
    · rw [hcell h3, ← Array.getElem?_toList]
      have : (cur.toList.take (o.length + 1))[o.length]? = some (natV x) := by rw [h7']; simp
      rw [List.getElem?_take] at this
      simpa [natV] using this
    · simp only [Value.ownBlock, Option.some.injEq] at hj
      subst hj
      exact ⟨q1, q2, q3⟩
    · refine Or.inr ⟨g, cap, cur, rfl, h2, (hother _ q2).trans h3, by omega, h5, h6, ?_⟩
      have : (cur.toList.take (o.length + 1)).take o.length = o.map natV := by rw [h7']; simp
      rw [List.take_take] at this
      rw [Nat.mul_one]
      rw [show min o.length (o.length + 1) = o.length by omega] at this
      exact this
theorem list_snoc {α : Type} (l : List α) : l = [] ∨ ∃ o x, l = o ++ [x] := by
  rcases List.eq_nil_or_concat l with h | ⟨o, x, h⟩
  · exact Or.inl h
  · exact Or.inr ⟨o, x, by simpa using h⟩
theorem names_hand {m : PM} {f : PF} (h : namesOk m f = true) {k : Nat} {x : PH} (hx : f.hands[k]? = some x) : 0 ≤ x.tg ∧ x.tg < f.code.length := by
  unfold namesOk at h
  simp only [Bool.and_eq_true] at h
  have := List.all_eq_true.1 h.1.2 x (List.mem_of_getElem? hx)
  unfold handOk at this
  rw [Bool.and_eq_true] at this
  exact belowB_true this.2
theorem names_instr {m : PM} {f : PF} (h : namesOk m f = true) {k : Nat} {x : PI} (hx : f.code[k]? = some x) : nameOk m f.slots f.code.length x = true := by
  unfold namesOk at h
  simp only [Bool.and_eq_true] at h
  exact List.all_eq_true.1 h.1.1 x (List.mem_of_getElem? hx)

def WaysPost (f : PF) (w : World) (e : Ending) (w' : World) : Prop := Below w.heap.size w w' ∧ ((e = .returned (.bool true) ∧ ¬ BadWays f.code f.hands) ∨ (e = .returned (.bool false) ∧ BadWays f.code f.hands))

set_option maxRecDepth 100000 in
set_option maxHeartbeats 8000000 in
theorem ways_any {m : PM} {w : World} {fb fo : Nat} {C : Nat → Value} {f : PF} (hf : FnAt w fb fo C f) (hs : sizeOk f = true) (hn : namesOk m f = true) :
    Calls Tryd.prog 29 #[.pointer (some ⟨fb, fo, none⟩)] w fun e w' => WaysPost f w e w' := by
  obtain ⟨gc, capc, hC3, hN3, r3⟩ := hf.fn.2.2.2.1
  obtain ⟨gh, caph, hC4, hN4, r4⟩ := hf.fn.2.2.2.2.1
  have c3 := hf.c3
  have c4 := hf.c4
  rw [hC3] at c3
  rw [hC4] at c4
  have hsz : 1 ≤ f.code.length ∧ f.code.length ≤ 5000 := by
    unfold sizeOk at hs
    simp only [Bool.and_eq_true] at hs
    have := inB_true hs.1.1
    omega
  obtain ⟨hl1, hl2⟩ := hsz
  have hmk := run_make_row' (P := Tryd.prog) 53 3 (.int .i64 0) 8 Tryd.underlying53 infoInt rfl .i64 .i64 f.code.length (by omega) (by omega)
  have HC3 := hide c3
  have HC4 := hide c4
  have R3 := hide r3
  have R4 := hide r4
  have HN := hide hn
  clear hf r3 r4 hC3 hC4 hs hn
  go_enter Tryd.func29, Tryd.ntmps29
  go_wp2_with fail
  go_cut [3] (fun p wc => p = .pointer (some ⟨w.heap.size + 1, 0, none⟩) ∧ Hid (Made w wc (.slice gc f.code.length capc) f.code.length 0))
  case first =>
    go_region_held3 (fun w' => w'.cell? ⟨fb, fo + 3, none⟩ = some (.slice gc f.code.length capc)) (go_keep) (fail)
    all_goals
      go_wp2_with fail
      go_meet
      exact ⟨rfl, made_start.drew⟩
  obtain ⟨rfl, HM⟩ := hcut
  have hb1 := (unhide HM).blk
  obtain ⟨t1, hb1⟩ := hb1
  have d1 : wc.cell? ⟨w.heap.size + 1, 1, none⟩ = some (.slice (some ⟨w.heap.size, 0, none⟩) f.code.length f.code.length) := hcell hb1 1
  clear hb1 hmk
  go_wp2_with fail
  go_loopg [26] f.code.length (fun gg i wr => ∃ k : Nat, k ≤ f.code.length ∧ gg = f.code.length - k ∧ i = .int .i64 k ∧ Hid (Made w wr (.slice gc f.code.length capc) f.code.length k))
  case atStart => exact ⟨0, Nat.zero_le _, rfl, rfl, unhide HM⟩
  case round =>
    obtain ⟨k, hk, rfl, rfl, HM⟩ := hrel
    obtain ⟨t1, hb1⟩ := (unhide HM).blk
    obtain ⟨t2, hb2⟩ := (unhide HM).row
    by_cases hlt : k < f.code.length
    · have e1 : wr.cell? ⟨w.heap.size + 1, 1, none⟩ = some (.slice (some ⟨w.heap.size, 0, none⟩) f.code.length f.code.length) := hcell hb1 1
      have ek : wr.cell? ⟨w.heap.size, k, none⟩ = some (.int .i64 0) := ((hcell hb2 k).trans (madeTo_get hlt)).trans (by rw [if_neg (by omega)])
      have fk : wr.frozen? ⟨w.heap.size, k, none⟩ = false := hfroz hb2 k
      have hk2 : (k : Int) < (f.code.length : Int) := by omega
      have HM2 := hide (unhide HM).step
      clear hb1 hb2 d1
      go_wp2_with fail
      go_roundg (f.code.length - (k + 1))
      case measure => omega
      case rel => exact ⟨k + 1, by omega, rfl, by go_num, unhide HM2⟩
    · obtain rfl : k = f.code.length := by omega
      have hff : decide ((f.code.length : Int) < (f.code.length : Int)) = false := by simp
      have HG := hide ((unhide HM).going (hs := f.hands))
      have HBw := hide (unhide HM).below
      clear hb1 hb2 d1 hlt hk HM
      go_wp2_with fail
      refine (come_int (unhide HG).ways (unhide HBw).size rfl hl2 (by simp) 0 0 (by omega) (by omega) (by omega) (by omega)).mono ?_
      rintro e w1 hc
      obtain ⟨hb1, hc⟩ := (unhide HG).come (Reach.start _ _) hc
      have HB1 := hide ((unhide HBw).trans hb1)
      clear hb1
      rcases hc with ⟨rfl, hbad⟩ | ⟨rfl, f1, o1, v1, hg1, hf1, hm1⟩
      · have HBAD := hide hbad
        clear hbad
        go_wp2_with fail
        go_ret
        exact ⟨unhide HB1, Or.inr ⟨rfl, unhide HBAD⟩⟩
      · have HG1 := hide hg1
        have HF1 := hide hf1
        have d4 := cellk (unhide HB1) (unhide HC4) (cell_lt (unhide HC4))
        clear hg1 hf1 hm1 HG HBw
        go_wp2_with fail
        go_loopg [44] f.hands.length (fun gg i wx => ∃ k : Nat, k ≤ f.hands.length ∧ gg = f.hands.length - k ∧ i = .int .i64 k ∧ Hid (Below w.heap.size w wx) ∧ Hid (∃ f2 o2 v2, Going w.heap.size f.code f.hands wx (w.heap.size + 1) w.heap.size (.slice gc f.code.length capc) (fun _ => none) f2 f.code.length f.code.length o2 v2 ∧ f2 0 = some 0 ∧ ∀ (j : Nat) (h : PH), j < k → f.hands[j]? = some h → f2 h.tg.toNat = some 1))
        case atStart => exact ⟨0, Nat.zero_le _, rfl, rfl, unhide HB1, f1, o1, v1, unhide HG1, unhide HF1, fun j h hj => absurd hj (Nat.not_lt_zero j)⟩
        case round =>
          obtain ⟨k, hk, rfl, rfl, HB2, HX⟩ := hrel
          obtain ⟨f2, o2, v2, hg2, hf2, hh2⟩ := unhide HX
          have HG2 := hide hg2
          have HF2 := hide hf2
          have HH2 := hide hh2
          clear hg2 hf2 hh2 HX HG1 HF1
          by_cases hlt : k < f.hands.length
          · have hx : f.hands[k]? = some (f.hands[k]'hlt) := List.getElem?_eq_getElem _
            generalize (f.hands[k]'hlt) = x at *
            obtain ⟨gb, go, rfl, j0, j1, j2⟩ := HandsAt.at (unhide R4) hx hlt
            have l0 := cellk (unhide HB2) j0 (cell_lt j0)
            have l1 := cellk (unhide HB2) j1 (cell_lt j1)
            have l2 := cellk (unhide HB2) j2 (cell_lt j2)
            have hk2 : (k : Int) < (f.hands.length : Int) := by omega
            obtain ⟨ht1, ht2⟩ := names_hand (unhide HN) hx
            have HX := hide hx
            clear hx j0 j1 j2 d4
            go_wp2_with fail
            have hba : Below wr.heap.size wr (wr.alloc (.cells #[.int .i64 x.fr, .int .i64 x.to, .int .i64 x.tg] 82)) := (Below.refl _ _).alloc (Nat.le_refl _) _
            refine (come_int ((unhide HG2).ways.keep hba) (Nat.le_trans (unhide HB2).size hba.size) rfl hl2 ((unhide HG2).olen hl2) _ 1 (by omega) (by omega) (by omega) (by omega)).mono ?_
            rintro e w3 hc
            obtain ⟨hb3, hc⟩ := ((unhide HG2).keep hba).come (n := 1) (Reach.hand (List.mem_of_getElem? (unhide HX))) hc
            have HB3 := hide (((unhide HB2).trans (hba.mono (unhide HB2).size)).trans hb3)
            clear hb3 hba
            rcases hc with ⟨rfl, hbad⟩ | ⟨rfl, f3, o3, v3, hg3, hf3, hm3⟩
            · have HBAD := hide hbad
              clear hbad
              go_wp2_with fail
              go_ret
              exact ⟨unhide HB3, Or.inr ⟨rfl, unhide HBAD⟩⟩
            · have HG3 := hide hg3
              have HF3 := hide hf3
              have HM3 := hide hm3
              clear hg3 hf3 hm3
              go_wp2_with fail
              go_roundg (f.hands.length - (k + 1))
              case measure => omega
              case rel =>
                refine ⟨k + 1, by omega, rfl, by go_num, unhide HB3, f3, o3, v3, unhide HG3, unhide HM3 _ _ (unhide HF2), fun j h hj hh => ?_⟩
                by_cases e : j = k
                · subst e
                  rw [unhide HX] at hh
                  cases hh
                  exact unhide HF3
                · exact unhide HM3 _ _ (unhide HH2 j h (by omega) hh)
          · obtain rfl : k = f.hands.length := by omega
            have hff2 : decide ((f.hands.length : Int) < (f.hands.length : Int)) = false := by simp
            clear hlt hk d4
            go_wp2_with fail
            go_loopg [2] f.code.length (fun gg _ wx => Hid (Below w.heap.size w wx) ∧ gg ≤ f.code.length ∧ Hid (∃ f2 o2 v2, Going w.heap.size f.code f.hands wx (w.heap.size + 1) w.heap.size (.slice gc f.code.length capc) (fun _ => none) f2 gg f.code.length o2 v2 ∧ f2 0 = some 0 ∧ ∀ (j : Nat) (h : PH), f.hands[j]? = some h → f2 h.tg.toNat = some 1))
            case atStart => exact ⟨unhide HB2, Nat.le_refl _, f2, o2, v2, unhide HG2, unhide HF2, fun j h hj => unhide HH2 j h (List.getElem?_eq_some_iff.1 hj).1 hj⟩
            case round =>
              obtain ⟨HB, hgk, HX⟩ := hrel
              obtain ⟨f3, o3, v3, hg3, hf3, hh3⟩ := unhide HX
              clear HX HG2 HF2 HH2 HB2 HB1
              have HF3 := hide hf3
              have HH3 := hide hh3
              clear hf3 hh3
              rcases list_snoc o3 with rfl | ⟨o4, x, rfl⟩
              · have hgood := hg3.book'.good (unhide HF3) (fun h hm => by
                  obtain ⟨j, hj, rfl⟩ := List.getElem_of_mem hm
                  exact unhide HH3 j _ (List.getElem?_eq_getElem hj))
                have HGOOD := hide hgood
                obtain ⟨a0, cap0, hv3⟩ : ∃ a0 cap0, v3 = .slice a0 0 cap0 := by
                  rcases hg3.ways.opn.2 with ⟨e, _⟩ | ⟨g, cap, cur, e, _⟩
                  · exact ⟨none, 0, e⟩
                  · exact ⟨some ⟨g, 0, none⟩, cap, e⟩
                obtain ⟨t5, hb5⟩ := hg3.ways.blk
                have d2 : wr.cell? ⟨w.heap.size + 1, 2, none⟩ = some (.slice a0 0 cap0) := (hcell hb5 2).trans (by rw [hv3]; rfl)
                clear hgood hv3 hb5 hg3
                go_wp2_with fail
                go_ret
                exact ⟨unhide HB, Or.inl ⟨rfl, unhide HGOOD⟩⟩
              · obtain ⟨g, cap, hv3, hcap1, hcap2, cx, hpop⟩ := hg3.ways.pop
                obtain ⟨hbut, hxl, n, hn⟩ := hg3.book'.pop
                obtain ⟨t5, hb5⟩ := hg3.ways.blk
                rw [hv3] at hb5
                have d2 : wr.cell? ⟨w.heap.size + 1, 2, none⟩ = some (.slice (some ⟨g, 0, none⟩) (o4.length + 1) cap) := hcell hb5 2
                have f2' : wr.frozen? ⟨w.heap.size + 1, 2, none⟩ = false := hfroz hb5 2
                have hx : f.code[x]? = some (f.code[x]'hxl) := List.getElem?_eq_getElem _
                have hok := names_instr (unhide HN) hx
                generalize (f.code[x]'hxl) = i at *
                obtain ⟨gb, go, rfl, j0, j1, j2⟩ := InstrsAt.row (unhide R3) hx hxl
                have hsz := hg3.size
                have hol : o4.length + 1 ≤ 5000 := by simp at hsz; omega
                have HBW : Hid (Below w.heap.size w (wr.setCell ⟨w.heap.size + 1, 2, none⟩ (.slice (some ⟨g, 0, none⟩) o4.length cap))) := (unhide HB).setCell (p := ⟨w.heap.size + 1, 2, none⟩) (by simp) _
                have HASK : Hid (GoAsk w.heap.size f.code f.hands (wr.setCell ⟨w.heap.size + 1, 2, none⟩ (.slice (some ⟨g, 0, none⟩) o4.length cap)) (w.heap.size + 1) w.heap.size gb go capc f3 o4 (.slice (some ⟨g, 0, none⟩) o4.length cap) (gk - 1) x n i) :=
                  ⟨⟨hpop, hbut, Mono.refl _, by simp at hsz; omega⟩, (unhide HBW).size, hl2, by omega, hx, hn, (hbut.known.bound _ _ hn).2, cellk (unhide HBW) j0 (cell_lt j0), cellk (unhide HBW) j1 (cell_lt j1), cellk (unhide HBW) j2 (cell_lt j2)⟩
                have HOK := hide hok
                have hgk1 : 1 ≤ gk := by simp at hsz; omega
                unfold maxLen at hcap2
                clear hv3 hpop hbut hn hb5 hx hok j0 j1 j2 hsz hg3
                have q1 : (o4.length : Int) + 1 ≤ (cap : Int) := by omega
                go_wp2_with fail
                refine (goOn_any (unhide HASK) (unhide HOK)).mono ?_
                rintro e w5 ⟨hb5, hc⟩
                have HB5 := hide ((unhide HBW).trans hb5)
                clear hb5
                rcases hc with ⟨rfl, hbad⟩ | ⟨rfl, f5, o5, v5, hw5, hk5, hm5, hs5⟩
                · have HBAD := hide hbad
                  clear hbad
                  go_wp2_with fail
                  go_ret
                  exact ⟨unhide HB5, Or.inr ⟨rfl, unhide HBAD⟩⟩
                · have HW5 := hide hw5
                  have HK5 := hide hk5
                  have HM5 := hide hm5
                  have HS5 := hide hs5
                  clear hw5 hk5 hm5 hs5
                  go_wp2_with fail
                  go_roundg (gk - 1)
                  case measure => omega
                  case rel => exact ⟨unhide HB5, by omega, f5, o5, v5, Going.of_book (unhide HW5) (unhide HK5) (fun p n h => by cases h) (unhide HS5), unhide HM5 _ _ (unhide HF3), fun j h hj => unhide HM5 _ _ (unhide HH3 j h hj)⟩
end Go.Proofs.YtkafldkhmkdafaaDoor

namespace Go.Proofs.YtkafldkhmkdafaaDoor
open Go.RowKit

/-- A class's cells behind a pointer. -/
structure KdAt (w : World) (b o : Nat) (C : Nat → Value) (c : PK) : Prop where
  c0 : w.cell? ⟨b, o, none⟩ = some (.string c.name)
  c1 : w.cell? ⟨b, o + 1, none⟩ = some (.int .i64 c.above)
  c2 : w.cell? ⟨b, o + 2, none⟩ = some (C 2)
  c3 : w.cell? ⟨b, o + 3, none⟩ = some (C 3)
  c4 : w.cell? ⟨b, o + 4, none⟩ = some (C 4)
  kd : KdIs w C c
theorem KdAt.of_rows {w : World} {g : Option Addr} {n : Nat} {R : Nat → Nat → Value} (h : RowsAt w g n 5 R) {i : Nat} (hi : i < n) {c : PK} (hf : KdIs w (R i) c) : ∃ b o, g = some ⟨b, o, none⟩ ∧ KdAt w b (o + i * 5) (R i) c := by
  obtain ⟨b, o, h1, h2⟩ := h i hi
  refine ⟨b, o, h1, ⟨?_, ?_, h2 2 (by omega), h2 3 (by omega), h2 4 (by omega), hf⟩⟩
  · exact (h2 0 (by omega)).trans (by rw [hf.1])
  · exact (h2 1 (by omega)).trans (by rw [hf.2.1])
theorem IntsAt.at {w : World} {g : Option Addr} {n : Nat} {l : List Int} (h : RowsAt w g n 1 (intRow l)) {x : Nat} {i : Int} (hi : l[x]? = some i) (hn : x < n) : ∃ b o, g = some ⟨b, o, none⟩ ∧ w.cell? ⟨b, o + x, none⟩ = some (.int .i64 i) := by
  obtain ⟨b, o, h1, h2⟩ := h x hn
  refine ⟨b, o, h1, ?_⟩
  have := h2 0 (by omega); rw [intRow, hi] at this
  rw [Nat.mul_one] at this
  exact this

theorem endsP_succ (A : List Int) (n : Nat) (k : Int) : endsP A (n + 1) k = ((oneUp A k == -1) || (belowB (oneUp A k) A.length && endsP A n (oneUp A k))) := rfl

set_option maxRecDepth 100000 in
set_option maxHeartbeats 4000000 in
theorem ends_any {w : World} {b : Nat} {m : PM} {vf vc vk : Value} (h : ImgAt w b m vf vc vk) {p : Nat} (hp : p < m.classes.length) {c : Bool} (hc : endsP (aboves m) m.classes.length p = c) :
    Calls Tryd.prog 26 #[.pointer (some ⟨b, 0, none⟩), .int .i64 p] w fun e w' => e = .returned (.bool c) ∧ w = w' := by
  obtain ⟨R, ⟨g, cap, rfl, hN, hr⟩, hR⟩ := h.img.classes
  have c2 := h.c2
  have HR := hide hr
  have HRR := hide hR
  have HC := hide hc
  clear h hr hR hc
  have hN' : m.classes.length ≤ 9223372036854775807 := by omega
  go_enter Tryd.func26, Tryd.ntmps26
  go_wp2_with fail
  go_loopg [1, 10] m.classes.length (fun gg num i wr => ∃ k q : Nat, k ≤ m.classes.length ∧ gg = m.classes.length - k ∧ i = .int .i64 k ∧ num = .int .i64 q ∧ q < m.classes.length ∧ wr = w ∧ Hid (endsP (aboves m) (m.classes.length - k) q = c))
  case atStart => exact ⟨0, p, Nat.zero_le _, rfl, rfl, rfl, hp, rfl, unhide HC⟩
  case round =>
    obtain ⟨k, q, hk, rfl, rfl, rfl, hq, rfl, HE⟩ := hrel
    by_cases hlt : k < m.classes.length
    · have hx : m.classes[q]? = some (m.classes[q]'hq) := List.getElem?_eq_getElem _
      have hone := oneUp_class hx
      have HKD := hide (unhide HRR q _ hx)
      generalize (m.classes[q]'hq) = x at *
      obtain ⟨gb, go, rfl, hK⟩ := KdAt.of_rows (unhide HR) hq (unhide HKD)
      have k1 := hK.c1
      have hk2 : (k : Int) < (m.classes.length : Int) := by omega
      have hq2 : (q : Int) < (m.classes.length : Int) := by omega
      have hstep : endsP (aboves m) (m.classes.length - k) q = ((x.above == -1) || (belowB x.above m.classes.length && endsP (aboves m) (m.classes.length - (k + 1)) x.above)) := by
        obtain ⟨n, hn⟩ : ∃ n, m.classes.length - k = n + 1 := ⟨m.classes.length - (k + 1), by omega⟩
        rw [hn, show m.classes.length - (k + 1) = n by omega]
        rw [endsP_succ, hone, aboves_length]
      have HS := hide ((unhide HE).symm.trans hstep)
      clear hstep hone hK HKD hx
      cases h1 : (x.above == -1) with
      | true =>
        have HF : Hid (c = true) := by
          show c = true
          rw [unhide HS, h1]; rfl
        go_wp2_with fail
        go_ret
        exact ⟨rb (unhide HF).symm, rfl⟩
      | false =>
        cases h2 : belowB x.above m.classes.length with
        | false =>
          have HF : Hid (c = false) := by
            show c = false
            rw [unhide HS, h1, h2]; rfl
          go_wp2_with (go_at_call 41; refine (below_is h2 _).mono ?_; rintro e w' ⟨rfl, rfl⟩)
          go_ret
          exact ⟨rb (unhide HF).symm, rfl⟩
        | true =>
          obtain ⟨ha1, ha2⟩ := belowB_true h2
          obtain ⟨q', hq'⟩ := Int.eq_ofNat_of_zero_le ha1
          have HF : Hid (endsP (aboves m) (m.classes.length - (k + 1)) x.above = c) := by
            show _ = c
            rw [unhide HS, h1, h2]; rfl
          have HQ := hide hq'
          clear hq'
          go_wp2_with (go_at_call 41; refine (below_is h2 _).mono ?_; rintro e w' ⟨rfl, rfl⟩)
          go_roundg (m.classes.length - (k + 1))
          case measure => omega
          case rel => exact ⟨k + 1, q', by omega, rfl, by go_num, by rw [unhide HQ], by have := unhide HQ; omega, rfl, by rw [← unhide HQ]; exact unhide HF⟩
    · obtain rfl : k = m.classes.length := by omega
      have hff : decide ((m.classes.length : Int) < (m.classes.length : Int)) = false := by simp
      have HF : Hid (c = false) := by
        show c = false
        have := unhide HE
        rw [Nat.sub_self] at this
        rw [← this]; rfl
      go_wp2_with fail
      go_ret
      exact ⟨rb (unhide HF).symm, rfl⟩

def Cls (m : PM) (i : Nat) (x : PK) (w : World) (e : Ending) (w' : World) : Prop := e = .returned (.bool (classOk m i x)) ∧ Below w.heap.size w w'
theorem Cls.mk {m : PM} {i : Nat} {x : PK} {w w' : World} {c : Bool} (hc : c = classOk m i x) (h : Below w.heap.size w w') : Cls m i x w (.returned (.bool c)) w' := by
  rw [hc]; exact ⟨rfl, h⟩

set_option maxRecDepth 100000 in
set_option maxHeartbeats 4000000 in
theorem class_any {w : World} {b : Nat} {m : PM} {vf vc vk : Value} (h : ImgAt w b m vf vc vk) {p : Nat} {x : PK} (hx : m.classes[p]? = some x) :
    Calls Tryd.prog 14 #[.pointer (some ⟨b, 0, none⟩), .int .i64 p] w fun e w' => Cls m p x w e w' := by
  have hp := (List.getElem?_eq_some_iff.1 hx).1
  obtain ⟨R, ⟨g, cap, rfl, hN, hr⟩, hR⟩ := h.img.classes
  have c2 := h.c2
  obtain ⟨gb, go, rfl, hK⟩ := KdAt.of_rows hr hp (hR p x hx)
  have k3 := hK.c3
  have k4 := hK.c4
  obtain ⟨g3, cap3, e3, hN3, _⟩ := hK.kd.2.2.2.1
  obtain ⟨g4, cap4, e4, hN4, r4⟩ := hK.kd.2.2.2.2
  rw [e3] at k3
  rw [e4] at k4
  have H := hide h
  have R4 := hide r4
  have HP := hide hp
  have hp2 : (p : Int) < (m.classes.length : Int) := by omega
  have HD : Hid (classOk m p x = ((x.names.length == x.meths.length) && x.meths.all (callB m) && endsP (aboves m) m.classes.length p)) := rfl
  clear h hr hR hK r4 e3 e4 hx
  cases hl : ((x.names.length : Int) != (x.meths.length : Int)) with
  | true =>
    have HF : Hid (classOk m p x = false) := by
      show classOk m p x = false
      have : (x.names.length == x.meths.length) = false := by
        rw [bne_iff_ne] at hl
        rw [beq_eq_false_iff_ne]
        omega
      rw [unhide HD, this]; rfl
    go_enter Tryd.func14, Tryd.ntmps14
    go_wp2_with fail
    go_quiet (fail)
    go_wp2_with fail
    go_ret
    exact Cls.mk (unhide HF).symm (Bl.drewN (Below.refl _ _) _)
  | false =>
    have HL : Hid ((x.names.length == x.meths.length) = true) := by
      show _ = true
      rw [bne_eq_false_iff_eq] at hl
      rw [beq_iff_eq]
      omega
    go_enter Tryd.func14, Tryd.ntmps14
    go_wp2_with fail
    go_quiet (fail)
    go_wp2_with fail
    go_loopg [30] x.meths.length (fun gg i wr => ∃ k : Nat, k ≤ x.meths.length ∧ gg = x.meths.length - k ∧ i = .int .i64 k ∧ Hid ((x.meths.take k).all (callB m) = true) ∧ wr = w.drewN nq)
    case atStart => exact ⟨0, Nat.zero_le _, rfl, rfl, rfl, rfl⟩
    case round =>
      obtain ⟨k, hk, rfl, rfl, HA, rfl⟩ := hrel
      by_cases hlt : k < x.meths.length
      · have hy : x.meths[k]? = some (x.meths[k]'hlt) := List.getElem?_eq_getElem _
        generalize (x.meths[k]'hlt) = y at *
        obtain ⟨mb, mo, rfl, j0⟩ := IntsAt.at (unhide R4) hy hlt
        have hk2 : (k : Int) < (x.meths.length : Int) := by omega
        have HY := hide hy
        clear hy
        cases hcb : callB m y with
        | false =>
          have HF : Hid (classOk m p x = false) := by
            show classOk m p x = false
            rw [unhide HD, all_of_take (unhide HY) hcb, unhide HL]; rfl
          go_wp2_with (go_at_call 25; refine (callable_is hcb ((unhide H).drewN _)).mono ?_; rintro e w' ⟨rfl, rfl⟩)
          go_ret
          exact Cls.mk (unhide HF).symm (Bl.drewN (Below.refl _ _) _)
        | true =>
          have HA2 : Hid ((x.meths.take (k + 1)).all (callB m) = true) := by
            show _ = true
            rw [all_take_succ (unhide HY), unhide HA, hcb]; rfl
          go_wp2_with (go_at_call 25; refine (callable_is hcb ((unhide H).drewN _)).mono ?_; rintro e w' ⟨rfl, rfl⟩)
          go_roundg (x.meths.length - (k + 1))
          case measure => omega
          case rel => exact ⟨k + 1, by omega, rfl, by go_num, unhide HA2, rfl⟩
      · obtain rfl : k = x.meths.length := by omega
        have hff : decide ((x.meths.length : Int) < (x.meths.length : Int)) = false := by simp
        cases he : endsP (aboves m) m.classes.length p with
        | true =>
          have HF : Hid (classOk m p x = true) := by
            show classOk m p x = true
            have := unhide HA
            rw [List.take_length] at this
            rw [unhide HD, this, unhide HL, he]; rfl
          go_wp2_with (go_at_call 26; refine (ends_any ((unhide H).drewN _) (unhide HP) he).mono ?_; rintro e w' ⟨rfl, rfl⟩)
          go_ret
          exact Cls.mk (unhide HF).symm (Bl.drewN (Below.refl _ _) _)
        | false =>
          have HF : Hid (classOk m p x = false) := by
            show classOk m p x = false
            rw [unhide HD, he]; simp
          go_wp2_with (go_at_call 26; refine (ends_any ((unhide H).drewN _) (unhide HP) he).mono ?_; rintro e w' ⟨rfl, rfl⟩)
          go_ret
          exact Cls.mk (unhide HF).symm (Bl.drewN (Below.refl _ _) _)

def FnPost (m : PM) (f : PF) (w : World) (e : Ending) (w' : World) : Prop := Below w.heap.size w w' ∧ ∃ n, e = .returned (.int .i64 n) ∧ FnErr m f n

set_option maxRecDepth 100000 in
set_option maxHeartbeats 4000000 in
theorem checkFunc_any {w : World} {b : Nat} {m : PM} {vf vc vk : Value} (h : ImgAt w b m vf vc vk) {fb fo : Nat} {C : Nat → Value} {f : PF} (hf : FnAt w fb fo C f) (hin : InB f) :
    Calls Tryd.prog 15 #[.pointer (some ⟨b, 0, none⟩), .pointer (some ⟨fb, fo, none⟩)] w fun e w' => FnPost m f w e w' := by
  have H := hide h
  have HF := hide hf
  have HIN := hide hin
  clear h hf hin
  go_enter Tryd.func15, Tryd.ntmps15
  go_wp2_with fail
  refine (size_any (unhide HF)).mono ?_
  rintro e w1 ⟨rfl, k, rfl⟩
  have HB1 := hide (Bl.drewN (Below.refl w.heap.size w) k)
  cases hs : sizeOk f with
  | false =>
    have HS := hide hs
    go_wp2_with fail
    go_ret
    exact ⟨unhide HB1, _, rfl, Or.inl ⟨unhide HS, rfl⟩⟩
  | true =>
    have HS := hide hs
    go_wp2_with fail
    refine (right_any ((unhide H).drewN _) ((unhide HF).drewN _) (unhide HIN)).mono ?_
    rintro e w2 ⟨rfl, hb2⟩
    have HB2 := hide ((unhide HB1).trans hb2)
    clear hb2
    cases hn : namesOk m f with
    | false =>
      have HN := hide hn
      go_wp2_with fail
      go_ret
      exact ⟨unhide HB2, _, rfl, Or.inr (Or.inl ⟨unhide HS, unhide HN, rfl⟩)⟩
    | true =>
      have HN := hide hn
      go_wp2_with fail
      refine (ways_any ((unhide HF).keep (unhide HB2)) (unhide HS) (unhide HN)).mono ?_
      rintro e w3 ⟨hb3, hc⟩
      have HB3 := hide ((unhide HB2).trans (hb3.mono (unhide HB2).size))
      clear hb3
      rcases hc with ⟨rfl, hc⟩ | ⟨rfl, hc⟩
      · have HC := hide hc
        clear hc
        go_wp2_with fail
        go_ret
        exact ⟨unhide HB3, _, rfl, Or.inr (Or.inr (Or.inr ⟨unhide HS, unhide HN, unhide HC, rfl⟩))⟩
      · have HC := hide hc
        clear hc
        go_wp2_with fail
        go_ret
        exact ⟨unhide HB3, _, rfl, Or.inr (Or.inr (Or.inl ⟨unhide HS, unhide HN, unhide HC, rfl⟩))⟩
end Go.Proofs.YtkafldkhmkdafaaDoor

namespace Go.Proofs.YtkafldkhmkdafaaDoor
open Go.RowKit

def FewPost (m : PM) (w : World) (e : Ending) (w' : World) : Prop := Below w.heap.size w w' ∧ ∃ c, e = .returned (.bool c) ∧ (c = true → m.funcs.length ≤ 260 ∧ m.consts.length ≤ 1100 ∧ m.classes.length ≤ 260)

set_option maxRecDepth 100000 in
set_option maxHeartbeats 8000000 in
theorem few_law {w : World} {m : PM} {vf vc vk : Value} (h : ImgIs w vf vc vk m) :
    Calls Tryd.prog 5 #[.agg #[vf, vc, vk]] w fun e w' => FewPost m w e w' := by
  obtain ⟨RF, ⟨gf, capf, rfl, nf, rf⟩, hRF⟩ := h.funcs
  obtain ⟨gc, capc, rfl, nc, _⟩ := h.consts
  obtain ⟨RK, ⟨gk, capk, rfl, nk, rk⟩, hRK⟩ := h.classes
  have HRF := hide rf
  have HRRF := hide hRF
  have HRK := hide rk
  have HRRK := hide hRK
  have HBA : ∀ o, Hid (Below w.heap.size w (w.alloc o)) := fun o => (Below.refl _ _).alloc (Nat.le_refl _) o
  clear h rf hRF rk hRK
  by_cases h1 : 260 < m.funcs.length
  · have b1 : decide ((260 : Int) < (m.funcs.length : Int)) = true := by simp; omega
    go_enter Tryd.func5, Tryd.ntmps5
    go_wp2_with fail
    go_ret
    exact ⟨unhide (HBA _), false, rfl, fun e => by cases e⟩
  · have b1 : decide ((260 : Int) < (m.funcs.length : Int)) = false := by simp; omega
    by_cases h2 : 1100 < m.consts.length
    · have b2 : decide ((1100 : Int) < (m.consts.length : Int)) = true := by simp; omega
      go_enter Tryd.func5, Tryd.ntmps5
      go_wp2_with fail
      go_ret
      exact ⟨unhide (HBA _), false, rfl, fun e => by cases e⟩
    · have b2 : decide ((1100 : Int) < (m.consts.length : Int)) = false := by simp; omega
      by_cases h3 : 260 < m.classes.length
      · have b3 : decide ((260 : Int) < (m.classes.length : Int)) = true := by simp; omega
        go_enter Tryd.func5, Tryd.ntmps5
        go_wp2_with fail
        go_ret
        exact ⟨unhide (HBA _), false, rfl, fun e => by cases e⟩
      · have b3 : decide ((260 : Int) < (m.classes.length : Int)) = false := by simp; omega
        have HBD : Hid (m.funcs.length ≤ 260 ∧ m.consts.length ≤ 1100 ∧ m.classes.length ≤ 260) := ⟨by omega, by omega, by omega⟩
        go_enter Tryd.func5, Tryd.ntmps5
        go_wp2_with fail
        obtain ⟨w0, hw0⟩ : ∃ w0, w.alloc (.cells #[.slice gf m.funcs.length capf, .slice gc m.consts.length capc, .slice gk m.classes.length capk] 26) = w0 := ⟨_, rfl⟩
        have hb0 : Below w.heap.size w w0 := by rw [← hw0]; exact unhide (HBA _)
        have hk : w0.heap[w.heap.size]? = some (.cells #[.slice gf m.funcs.length capf, .slice gc m.consts.length capc, .slice gk m.classes.length capk] 26 (0, 0)) := by rw [← hw0]; exact hnew _ _
        have k0 : w0.cell? ⟨w.heap.size, 0, none⟩ = some (.slice gf m.funcs.length capf) := hcell hk 0
        have k2 : w0.cell? ⟨w.heap.size, 2, none⟩ = some (.slice gk m.classes.length capk) := hcell hk 2
        have HB0 := hide hb0
        rw [hw0]
        clear hw0 hb0 hk
        go_loopg [3, 4] m.funcs.length (fun gg s i wr => ∃ (k : Nat) (t : Int), k ≤ m.funcs.length ∧ gg = m.funcs.length - k ∧ i = .int .i64 k ∧ s = .int .i64 t ∧ Hid (∃ n, wr = w0.drewN n))
        case atStart => exact ⟨0, 0, Nat.zero_le _, rfl, rfl, rfl, 0, rfl⟩
        case round =>
          obtain ⟨k, t, hk, rfl, rfl, rfl, HW⟩ := hrel
          obtain ⟨n, hn⟩ := unhide HW
          have e0 : wr.cell? ⟨w.heap.size, 0, none⟩ = some (.slice gf m.funcs.length capf) := by rw [hn]; exact k0
          have e2 : wr.cell? ⟨w.heap.size, 2, none⟩ = some (.slice gk m.classes.length capk) := by rw [hn]; exact k2
          have HNW := hide hn
          by_cases hlt : k < m.funcs.length
          · have hx : m.funcs[k]? = some (m.funcs[k]'hlt) := List.getElem?_eq_getElem _
            generalize (m.funcs[k]'hlt) = x at *
            obtain ⟨gb, go, rfl, hF⟩ := FnAt.of_rows (unhide HRF) hlt (unhide HRRF k x hx)
            obtain ⟨g3, p3, e3, _, _⟩ := hF.fn.2.2.2.1
            obtain ⟨g4, p4, e4, _, _⟩ := hF.fn.2.2.2.2.1
            obtain ⟨g5, p5, e5, _, _⟩ := hF.fn.2.2.2.2.2
            have hF2 := hF.keep (unhide HB0)
            have i3 : wr.cell? ⟨gb, go + k * 6 + 3, none⟩ = some (.slice g3 x.code.length p3) := by rw [hn, ← e3]; exact hF2.c3
            have i4 : wr.cell? ⟨gb, go + k * 6 + 4, none⟩ = some (.slice g4 x.hands.length p4) := by rw [hn, ← e4]; exact hF2.c4
            have i5 : wr.cell? ⟨gb, go + k * 6 + 5, none⟩ = some (.slice g5 x.vars.length p5) := by rw [hn, ← e5]; exact hF2.c5
            have hk2 : (k : Int) < (m.funcs.length : Int) := by omega
            clear hx hF hF2 e3 e4 e5 hn k0 k2
            go_wp2_with fail
            go_quiet (fail)
            go_wp2_with fail
            go_roundg (m.funcs.length - (k + 1))
            case measure => omega
            case rel => exact ⟨k + 1, _, by omega, rfl, by go_num, rfl, _, by rw [unhide HNW, World.drewN_drewN]⟩
          · obtain rfl : k = m.funcs.length := by omega
            have hff : decide ((m.funcs.length : Int) < (m.funcs.length : Int)) = false := by simp
            clear hn hlt hk k0
            go_wp2_with fail
            go_loopg [3, 5] m.classes.length (fun gg s i wx => ∃ (k : Nat) (t : Int), k ≤ m.classes.length ∧ gg = m.classes.length - k ∧ i = .int .i64 k ∧ s = .int .i64 t ∧ Hid (∃ n, wx = w0.drewN n))
            case atStart => exact ⟨0, t, Nat.zero_le _, rfl, rfl, rfl, unhide HW⟩
            case round =>
              obtain ⟨k, t, hk, rfl, rfl, rfl, HW⟩ := hrel
              obtain ⟨n, hn⟩ := unhide HW
              have e2 : wr.cell? ⟨w.heap.size, 2, none⟩ = some (.slice gk m.classes.length capk) := by rw [hn]; exact k2
              have HNW := hide hn
              by_cases hlt : k < m.classes.length
              · have hx : m.classes[k]? = some (m.classes[k]'hlt) := List.getElem?_eq_getElem _
                generalize (m.classes[k]'hlt) = x at *
                obtain ⟨gb, go, rfl, hK⟩ := KdAt.of_rows (unhide HRK) hlt (unhide HRRK k x hx)
                obtain ⟨g2, p2, q2, _, _⟩ := hK.kd.2.2.1
                obtain ⟨g3, p3, q3, _, _⟩ := hK.kd.2.2.2.1
                obtain ⟨g4, p4, q4, _, _⟩ := hK.kd.2.2.2.2
                have i2 : wr.cell? ⟨gb, go + k * 5 + 2, none⟩ = some (.slice g2 x.fields.length p2) := by rw [hn, ← q2]; exact cellk (unhide HB0) hK.c2 (cell_lt hK.c2)
                have i3 : wr.cell? ⟨gb, go + k * 5 + 3, none⟩ = some (.slice g3 x.names.length p3) := by rw [hn, ← q3]; exact cellk (unhide HB0) hK.c3 (cell_lt hK.c3)
                have i4 : wr.cell? ⟨gb, go + k * 5 + 4, none⟩ = some (.slice g4 x.meths.length p4) := by rw [hn, ← q4]; exact cellk (unhide HB0) hK.c4 (cell_lt hK.c4)
                have hk2 : (k : Int) < (m.classes.length : Int) := by omega
                clear hx hK q2 q3 q4 hn k2
                go_wp2_with fail
                go_quiet (fail)
                go_wp2_with fail
                go_roundg (m.classes.length - (k + 1))
                case measure => omega
                case rel => exact ⟨k + 1, _, by omega, rfl, by go_num, rfl, _, by rw [unhide HNW, World.drewN_drewN]⟩
              · obtain rfl : k = m.classes.length := by omega
                have hff2 : decide ((m.classes.length : Int) < (m.classes.length : Int)) = false := by simp
                clear hn hlt hk k2
                go_wp2_with fail
                go_ret
                exact ⟨by rw [unhide HNW]; exact Bl.drewN (unhide HB0) _, _, rfl, fun _ => unhide HBD⟩
end Go.Proofs.YtkafldkhmkdafaaDoor

namespace Go.Proofs.YtkafldkhmkdafaaDoor
open Go.RowKit

/-- Of what was there, block r alone may have turned. -/
structure Ext (r : Nat) (w w' : World) : Prop where
  os : w'.os = w.os
  tape : w'.tape = w.tape
  output : w'.output = w.output
  size : w.heap.size ≤ w'.heap.size
  block : ∀ k, k < w.heap.size → k ≠ r → w'.heap[k]? = w.heap[k]?
theorem Ext.refl (r : Nat) (w : World) : Ext r w w := ⟨rfl, rfl, rfl, Nat.le_refl _, fun _ _ _ => rfl⟩
theorem Ext.trans {r : Nat} {a b c : World} (h : Ext r a b) (k : Ext r b c) : Ext r a c :=
  ⟨k.os.trans h.os, k.tape.trans h.tape, k.output.trans h.output, Nat.le_trans h.size k.size, fun i hi hr => (k.block i (Nat.lt_of_lt_of_le hi h.size) hr).trans (h.block i hi hr)⟩
theorem Ext.alloc {r : Nat} {a w : World} (h : Ext r a w) (o : Obj) : Ext r a (w.alloc o) :=
  h.trans ⟨rfl, rfl, rfl, by simp, fun k hk _ => Below.heap_alloc _ _ _ hk⟩
theorem Ext.drewN {r : Nat} {a w : World} (h : Ext r a w) (n : Nat) : Ext r a (w.drewN n) := ⟨h.os, h.tape, h.output, h.size, h.block⟩
theorem Ext.setCell {r : Nat} {a w : World} (h : Ext r a w) (i : Nat) (v : Value) : Ext r a (w.setCell ⟨r, i, none⟩ v) :=
  h.trans ⟨rfl, rfl, rfl, by simp [World.setCell], fun k _ hr => Below.heap_setCell _ _ _ _ hr⟩
theorem Ext.grown {r : Nat} {a w w' : World} {row : Option Nat} (h : Ext r a w) (hg : w.grownBy w' row) (hr : ∀ k, row = some k → a.heap.size ≤ k) : Ext r a w' :=
  ⟨hg.os.trans h.os, hg.tape.trans h.tape, hg.output.trans h.output, Nat.le_trans h.size hg.size, fun k hk hne => (hg.block k (Nat.lt_of_lt_of_le hk h.size) (fun e => by have := hr k e.symm; omega)).trans (h.block k hk hne)⟩
theorem Ext.below {r B : Nat} {a w : World} (h : Ext r a w) (hB : B ≤ a.heap.size) (hr : B ≤ r) : Below B a w := ⟨h.os, h.tape, h.output, h.size, fun k hk => h.block k (by omega) (by omega)⟩

/-- A flat list of rows. -/
def Flat (xs : List Value) (n k : Nat) (R : Nat → Nat → Value) : Prop := ∀ i j, i < n → j < k → xs[i * k + j]? = some (R i j)
theorem Flat.nil (k : Nat) (R : Nat → Nat → Value) : Flat [] 0 k R := fun i _ hi => absurd hi (Nat.not_lt_zero i)
theorem Flat.snoc {xs news : List Value} {n k : Nat} {R : Nat → Nat → Value} (h : Flat xs n k R) (hl : xs.length = n * k) (hn : ∀ j, j < k → news[j]? = some (R n j)) : Flat (xs ++ news) (n + 1) k R := by
  intro i j hi hj
  by_cases e : i = n
  · subst e
    rw [List.getElem?_append_right (by omega), show i * k + j - xs.length = j by omega]
    exact hn j hj
  · have h1 : i * k + j < n * k := by
      have : (i + 1) * k ≤ n * k := Nat.mul_le_mul_right k (by omega)
      rw [Nat.add_mul] at this
      omega
    rw [List.getElem?_append_left (by omega)]
    exact h i j (by omega) hj
theorem rows_of_owns {w : World} {B : Nat} {e : TypeId} {k : Nat} {v : Value} {n : Nat} {xs : List Value} {R : Nat → Nat → Value} (h : w.ownsRow B e k v n xs) (hf : Flat xs n k R) : ∃ g cap, v = .slice g n cap ∧ RowsAt w g n k R := by
  rcases h.2 with ⟨rfl, rfl⟩ | ⟨g, cap, cur, rfl, h2, h3, h4, h5, h6, h7⟩
  · exact ⟨none, 0, rfl, fun i hi => absurd hi (Nat.not_lt_zero i)⟩
  · refine ⟨_, cap, rfl, fun i hi => ⟨g, 0, rfl, fun j hj => ?_⟩⟩
    have hx := hf i j hi hj
    have h1 : i * k + j < n * k := by
      have : (i + 1) * k ≤ n * k := Nat.mul_le_mul_right k (by omega)
      rw [Nat.add_mul] at this
      omega
    rw [Nat.zero_add, hcell h3, ← Array.getElem?_toList]
    rw [← h7, List.getElem?_take] at hx
    simpa [h1] using hx

theorem infoConst : (Tryd.prog.info? 77).map (fun i => (i.zero, i.size, i.bytes)) = some (some (.agg #[.bool false, .string ByteArray.empty, .int .i64 0]), 3, 32) := by kernel_rfl
theorem infoKind : (Tryd.prog.info? 68).map (fun i => (i.zero, i.size, i.bytes)) = some (some (.agg #[.string ByteArray.empty, .int .i64 0, .slice none 0 0, .slice none 0 0, .slice none 0 0]), 5, 96) := by kernel_rfl
theorem infoFunc : (Tryd.prog.info? 73).map (fun i => (i.zero, i.size, i.bytes)) = some (some (.agg #[.string ByteArray.empty, .int .i64 0, .int .i64 0, .slice none 0 0, .slice none 0 0, .slice none 0 0]), 6, 104) := by kernel_rfl
theorem infoInstr : (Tryd.prog.info? 80).map (fun i => (i.zero, i.size, i.bytes)) = some (some (.agg #[.int .i64 0, .int .i64 0, .int .i64 0]), 3, 24) := by kernel_rfl
theorem infoHand : (Tryd.prog.info? 83).map (fun i => (i.zero, i.size, i.bytes)) = some (some (.agg #[.int .i64 0, .int .i64 0, .int .i64 0]), 3, 24) := by kernel_rfl
theorem infoSlot : (Tryd.prog.info? 86).map (fun i => (i.zero, i.size, i.bytes)) = some (some (.agg #[.string ByteArray.empty, .int .i64 0, .int .i64 0, .int .i64 0, .bool false]), 5, 48) := by kernel_rfl

/-- The image's block, and the row that grows behind its cell i. -/
structure Mk (w0 w : World) (ib : Nat) (cs : Array Value) (i : Nat) (e : TypeId) (k : Nat) (v : Value) (n : Nat) (xs : List Value) : Prop where
  ext : Ext ib w0 w
  blk : ∃ t, w.heap[ib]? = some (.cells (cs.setIfInBounds i v) t (0, 0))
  own : w.ownsRow w0.heap.size e k v n xs
  lt : ib < w0.heap.size
  sz : i < cs.size
theorem Mk.cell {w0 w : World} {ib : Nat} {cs : Array Value} {i : Nat} {e : TypeId} {k : Nat} {v : Value} {n : Nat} {xs : List Value} (h : Mk w0 w ib cs i e k v n xs) : w.cell? ⟨ib, i, none⟩ = some v := by
  obtain ⟨t, hb⟩ := h.blk
  rw [hcell hb]
  have := h.sz
  simp [this]
theorem Mk.own_ne {w0 w : World} {ib : Nat} {cs : Array Value} {i : Nat} {e : TypeId} {k : Nat} {v : Value} {n : Nat} {xs : List Value} (h : Mk w0 w ib cs i e k v n xs) : ∀ j, v.ownBlock = some j → w0.heap.size ≤ j := by
  intro j hj
  rcases h.own.2 with ⟨rfl, _⟩ | ⟨g, cap, cur, rfl, h2, _⟩
  · simp [Value.ownBlock] at hj
  · simp only [Value.ownBlock, Option.some.injEq] at hj
    omega
theorem Mk.alloc {w0 w : World} {ib : Nat} {cs : Array Value} {i : Nat} {e : TypeId} {k : Nat} {v : Value} {n : Nat} {xs : List Value} (h : Mk w0 w ib cs i e k v n xs) (o : Obj) : Mk w0 (w.alloc o) ib cs i e k v n xs := by
  obtain ⟨h1, ⟨t, h2⟩, h3, h4, h5⟩ := h
  exact ⟨h1.alloc o, ⟨t, (Below.heap_alloc _ _ _ (hlt h2)).trans h2⟩, owns_alloc h3 o, h4, h5⟩
theorem Mk.drewN {w0 w : World} {ib : Nat} {cs : Array Value} {i : Nat} {e : TypeId} {k : Nat} {v : Value} {n : Nat} {xs : List Value} (h : Mk w0 w ib cs i e k v n xs) (m : Nat) : Mk w0 (w.drewN m) ib cs i e k v n xs := ⟨h.ext.drewN m, h.blk, h.own, h.lt, h.sz⟩
/-- Behind an append, and behind the store. -/
theorem Mk.more {w0 w w3 : World} {ib : Nat} {cs : Array Value} {i : Nat} {e : TypeId} {k : Nat} {v : Value} {n : Nat} {xs news : List Value} (h : Mk w0 w ib cs i e k v n xs) {g cap : Nat}
    (hown : w3.ownsRow w0.heap.size e k (.slice (some ⟨g, 0, none⟩) (n + 1) cap) (n + 1) (xs ++ news)) (hg : w.grownBy w3 v.ownBlock) (hat : v.ownBlock = some g ∨ g = w.heap.size) :
    w3.cell? ⟨ib, i, none⟩ = some v ∧ w3.frozen? ⟨ib, i, none⟩ = false ∧ Mk w0 (w3.setCell ⟨ib, i, none⟩ (.slice (some ⟨g, 0, none⟩) (n + 1) cap)) ib cs i e k (.slice (some ⟨g, 0, none⟩) (n + 1) cap) (n + 1) (xs ++ news) := by
  have hne := h.own_ne
  have hcell0 := h.cell
  obtain ⟨h1, ⟨t, h2⟩, h3, h4, h5⟩ := h
  have hi3 : w3.heap[ib]? = some (.cells (cs.setIfInBounds i v) t (0, 0)) := (hg.block ib (hlt h2) (fun e => by have := hne ib e.symm; omega)).trans h2
  have hgi : g ≠ ib := by
    rcases hat with e | e
    · have := hne g e; omega
    · have := hlt h2; omega
  refine ⟨(World.cell?_of_block (hi3.trans h2.symm)).trans hcell0, hfroz hi3 i, ⟨(h1.grown hg hne).setCell i _, ⟨t, ?_⟩, ?_, h4, h5⟩⟩
  · rw [hset hi3]
    congr 1
    apply congrArg (fun z => Obj.cells z t (0, 0))
    apply Array.ext_getElem?
    intro j
    simp only [Array.getElem?_setIfInBounds, Array.size_setIfInBounds]
    split <;> rfl
  · refine ⟨hown.1, ?_⟩
    rcases hown.2 with ⟨q, _⟩ | ⟨g', cap', cur, q1, q2, q3, q4⟩
    · cases q
    · cases q1
      exact Or.inr ⟨g, cap, cur, rfl, q2, (hother _ hgi).trans q3, q4⟩
theorem Mk.like {w0 w w' : World} {ib : Nat} {cs : Array Value} {i : Nat} {e : TypeId} {k : Nat} {v : Value} {n : Nat} {xs : List Value} (h : Mk w0 w ib cs i e k v n xs) (hh : w'.heap = w.heap) (ho : w'.os = w.os) (ht : w'.tape = w.tape) (hp : w'.output = w.output) : Mk w0 w' ib cs i e k v n xs := by
  obtain ⟨h1, ⟨t, h2⟩, ⟨h3, h3'⟩, h4, h5⟩ := h
  refine ⟨⟨ho.trans h1.os, ht.trans h1.tape, hp.trans h1.output, by rw [hh]; exact h1.size, fun j hj hr => by rw [hh]; exact h1.block j hj hr⟩, ⟨t, by rw [hh]; exact h2⟩, ⟨h3, ?_⟩, h4, h5⟩
  rcases h3' with q | ⟨g, cap, cur, q1, q2, q3, q4⟩
  · exact Or.inl q
  · exact Or.inr ⟨g, cap, cur, q1, q2, by rw [hh]; exact q3, q4⟩
theorem Mk.own_lt {w0 w : World} {ib : Nat} {cs : Array Value} {i : Nat} {e : TypeId} {k : Nat} {v : Value} {n : Nat} {xs : List Value} (h : Mk w0 w ib cs i e k v n xs) : ∀ j, v.ownBlock = some j → j < w.heap.size := by
  intro j hj
  rcases h.own.2 with ⟨rfl, _⟩ | ⟨g, cap, cur, rfl, h2, h3, _⟩
  · simp [Value.ownBlock] at hj
  · simp only [Value.ownBlock, Option.some.injEq] at hj
    subst hj
    exact hlt h3
/-- A row is appended to out of a copy that was laid beside it. -/
theorem Mk.grow {w0 wr W w3 : World} {ib : Nat} {cs : Array Value} {i : Nat} {e : TypeId} {k : Nat} {v : Value} {n : Nat} {xs news : List Value} (h : Mk w0 wr ib cs i e k v n xs) {o1 o2 : Obj}
    (hh : W.heap = ((wr.alloc o1).alloc o2).heap) (ho : W.os = wr.os) (ht : W.tape = wr.tape) (hp : W.output = wr.output) {g cap : Nat}
    (hown : w3.ownsRow w0.heap.size e k (.slice (some ⟨g, 0, none⟩) (n + 1) cap) (n + 1) (xs ++ news)) (hg : W.grownBy w3 v.ownBlock) (hat : v.ownBlock = some g ∨ g = wr.heap.size + 1 + 1) :
    w3.cell? ⟨ib, i, none⟩ = some v ∧ w3.frozen? ⟨ib, i, none⟩ = false ∧ w3.heap[wr.heap.size]? = some o1 ∧ Hid (Mk w0 (w3.setCell ⟨ib, i, none⟩ (.slice (some ⟨g, 0, none⟩) (n + 1) cap)) ib cs i e k (.slice (some ⟨g, 0, none⟩) (n + 1) cap) (n + 1) (xs ++ news)) := by
  have hW : Mk w0 W ib cs i e k v n xs := ((h.alloc o1).alloc o2).like hh ho ht hp
  have hsz : W.heap.size = wr.heap.size + 1 + 1 := by rw [hh]; simp
  obtain ⟨q1, q2, q3⟩ := hW.more hown hg (by rw [hsz]; exact hat)
  refine ⟨q1, q2, ?_, q3⟩
  rw [hg.block wr.heap.size (by omega) (fun e => by have := h.own_lt _ e.symm; omega), hh, Below.heap_alloc _ _ _ (by simp)]
  exact hnew _ _
end Go.Proofs.YtkafldkhmkdafaaDoor
