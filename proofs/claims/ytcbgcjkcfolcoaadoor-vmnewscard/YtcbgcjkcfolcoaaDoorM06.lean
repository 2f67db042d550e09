/-
  The ways through a function's code, walked.
  Whether an image may be run, by the program.
  Whether an image may be run, by the program: the whole.
  Whether an image may be run, by the program; nil alone says that it may.
-/
import Derived.Test.YtcbgcjkcfolcoaaDoorM05
import Derived.Deep.OwnRows
namespace Go.Proofs.YtcbgcjkcfolcoaaDoor
open Go.RowKit

/-- The values' row while it is being made: so many are -1. -/
def madeTo (N k : Nat) : Array Value := ((List.range N).map fun p => if p < k then Value.int .i64 (-1) else .int .i64 0).toArray
theorem madeTo_zero (N : Nat) : madeCells #[.int .i64 0] N = madeTo N 0 := by
  apply Array.ext_getElem?
  intro i
  by_cases h : i < N
  · simp [madeCells, madeTo, h, Nat.mod_one]
  · simp [madeCells, madeTo, h]
theorem madeTo_size (N k : Nat) : (madeTo N k).size = N := by simp [madeTo]
theorem madeTo_get {N k p : Nat} (h : p < N) : (madeTo N k)[p]? = some (if p < k then .int .i64 (-1) else .int .i64 0) := by
  simp [madeTo, h]
theorem madeTo_set (N k : Nat) : (madeTo N k).setIfInBounds k (.int .i64 (-1)) = madeTo N (k + 1) := by
  apply Array.ext_getElem?
  intro i
  rw [Array.getElem?_setIfInBounds]
  by_cases hi : i < N
  · rw [madeTo_get hi, madeTo_get hi]
    by_cases e : k = i
    · subst e
      rw [if_pos rfl, if_pos (by rw [madeTo_size]; exact hi), if_pos (by omega)]
    · rw [if_neg e]
      by_cases h : i < k
      · rw [if_pos h, if_pos (by omega)]
      · rw [if_neg h, if_neg (by omega)]
  · have h1 : (madeTo N k)[i]? = none := Array.getElem?_eq_none (by rw [madeTo_size]; omega)
    have h2 : (madeTo N (k + 1))[i]? = none := Array.getElem?_eq_none (by rw [madeTo_size]; omega)
    rw [h1, h2]
    by_cases e : k = i
    · subst e
      rw [if_pos rfl, if_neg (by rw [madeTo_size]; exact hi)]
    · rw [if_neg e]
theorem madeTo_all (N : Nat) : madeTo N N = notedCells N (fun _ => none) := by
  apply Array.ext_getElem?
  intro i
  by_cases hi : i < N
  · rw [madeTo_get hi, notedCells_get hi, if_pos hi]; rfl
  · rw [Array.getElem?_eq_none (by rw [madeTo_size]; omega), Array.getElem?_eq_none (by rw [notedCells_size]; omega)]

/-- The struct and its row while that is being made. -/
structure Made (w wr : World) (vcode : Value) (N k : Nat) : Prop where
  below : Below w.heap.size w wr
  blk : ∃ t, wr.heap[w.heap.size + 1]? = some (.cells #[vcode, .slice (some ⟨w.heap.size, 0, none⟩) N N, .slice none 0 0] t (0, 0))
  row : ∃ t, wr.heap[w.heap.size]? = some (.cells (madeTo N k) t (0, 0))

theorem made_start {w : World} {vcode : Value} {N : Nat} {t1 t2 : TypeId} : Made w ((w.alloc (.cells (madeCells #[.int .i64 0] N) t1)).alloc (.cells #[vcode, .slice (some ⟨w.heap.size, 0, none⟩) N N, .slice none 0 0] t2)) vcode N 0 := by
  have h1 : (w.alloc (.cells (madeCells #[.int .i64 0] N) t1)).heap.size = w.heap.size + 1 := by simp
  refine ⟨((Below.refl _ _).alloc (Nat.le_refl _) _).alloc (by omega) _, ⟨t2, ?_⟩, ⟨t1, ?_⟩⟩
  · rw [← h1]; exact hnew _ _
  · rw [Below.heap_alloc _ _ _ (by omega), ← madeTo_zero]; exact hnew _ _
theorem Made.drewN {w wr : World} {vcode : Value} {N k : Nat} (h : Made w wr vcode N k) (n : Nat) : Made w (wr.drewN n) vcode N k := ⟨Bl.drewN h.below n, h.blk, h.row⟩
theorem Made.drew {w wr : World} {vcode : Value} {N k : Nat} (h : Made w wr vcode N k) : Made w wr.drew vcode N k := ⟨h.below.drew, h.blk, h.row⟩
theorem Made.step {w wr : World} {vcode : Value} {N k : Nat} (h : Made w wr vcode N k) : Made w (wr.setCell ⟨w.heap.size, k, none⟩ (.int .i64 (-1))) vcode N (k + 1) := by
  obtain ⟨h1, ⟨t2, h2⟩, ⟨t3, h3⟩⟩ := h
  exact ⟨h1.setCell (p := ⟨w.heap.size, k, none⟩) (Nat.le_refl _) _, ⟨t2, (hother _ (by omega)).trans h2⟩, ⟨t3, by rw [hset h3, madeTo_set]⟩⟩
theorem unset_none : ∀ N, unset (fun _ => none) N = N
  | 0 => rfl
  | n + 1 => by unfold unset; rw [unset_none n]; simp
theorem Made.going {w wr : World} {vcode : Value} {c : List PI} {hs : List PH} (h : Made w wr vcode c.length c.length) : Going w.heap.size c hs wr (w.heap.size + 1) w.heap.size vcode (fun _ => none) (fun _ => none) c.length c.length [] (.slice none 0 0) := by
  obtain ⟨h1, ⟨t2, h2⟩, ⟨t3, h3⟩⟩ := h
  rw [madeTo_all] at h3
  refine ⟨⟨by omega, Nat.le_refl _, by omega, fun j hj => by simp [Value.ownBlock] at hj, ⟨t2, h2⟩, ⟨t3, h3⟩, rfl, Or.inl ⟨rfl, rfl⟩⟩, ⟨⟨fun p n h => (by cases h), fun p n h => (by cases h)⟩, fun p hp => (by cases hp), fun p hp => absurd rfl hp⟩, Mono.refl _, by rw [unset_none]; rfl⟩

/-- Whoever is being gone on from, where nobody is. -/
theorem Going.book' {B : Nat} {c : List PI} {hs : List PH} {w : World} {r vb : Nat} {vcode vopen : Value} {f0 f : Nat → Option Nat} {u : Nat} {o : List Nat} (h : Going B c hs w r vb vcode f0 f u c.length o vopen) : Book c hs f o := by
  refine h.book.close fun n i hn _ => ?_
  have := (h.book.known.bound _ _ hn).1
  omega
theorem Going.of_book {B : Nat} {c : List PI} {hs : List PH} {w : World} {r vb : Nat} {vcode vopen : Value} {f0 f : Nat → Option Nat} {u x : Nat} {o : List Nat} (h1 : WaysAt B w r vb vcode vopen c.length f o) (h2 : Book c hs f o) (h3 : Mono f0 f) (h4 : unset f c.length + o.length = u) : Going B c hs w r vb vcode f0 f u x o vopen :=
  ⟨h1, ⟨h2.known, h2.opened, fun p a b _ => h2.done p a b⟩, h3, h4⟩

theorem WaysAt.pop {B : Nat} {w : World} {r vb : Nat} {vcode vopen : Value} {N : Nat} {f : Nat → Option Nat} {o : List Nat} {x : Nat} (h : WaysAt B w r vb vcode vopen N f (o ++ [x])) :
    ∃ g cap, vopen = .slice (some ⟨g, 0, none⟩) (o.length + 1) cap ∧ o.length + 1 ≤ cap ∧ cap ≤ maxLen ∧ w.cell? ⟨g, o.length, none⟩ = some (.int .i64 x) ∧ WaysAt B (w.setCell ⟨r, 2, none⟩ (.slice (some ⟨g, 0, none⟩) o.length cap)) r vb vcode (.slice (some ⟨g, 0, none⟩) o.length cap) N f o := by
  obtain ⟨r0, vb0, ne, ro, ⟨t1, b1⟩, ⟨t2, b2⟩, hop⟩ := h
  rcases hop.2 with ⟨_, h⟩ | ⟨g, cap, cur, h1, h2, h3, h4, h5, h6, h7⟩
  · simp at h
  · have hl : (o ++ [x]).length = o.length + 1 := by simp
    rw [hl] at h1 h4 h7
    obtain ⟨q1, q2, q3⟩ := ro g (by rw [h1]; rfl)
    have h7' : cur.toList.take (o.length + 1) = o.map natV ++ [natV x] := by rw [Nat.mul_one] at h7; rw [h7]; simp
    refine ⟨g, cap, h1, h4, h5, ?_, ⟨r0, vb0, ne, fun j hj => ?_, ⟨t1, by rw [hset b1]; rfl⟩, ⟨t2, (hother _ ne).trans b2⟩, by simp, ?_⟩⟩
    · rw [hcell h3, ← Array.getElem?_toList]
      have : (cur.toList.take (o.length + 1))[o.length]? = some (natV x) := by rw [h7']; simp
      rw [List.getElem?_take] at this
      simpa [natV] using this
    · simp only [Value.ownBlock, Option.some.injEq] at hj
      subst hj
      exact ⟨q1, q2, q3⟩
    · refine Or.inr ⟨g, cap, cur, rfl, h2, (hother _ q2).trans h3, by omega, h5, h6, ?_⟩
      have : (cur.toList.take (o.length + 1)).take o.length = o.map natV := by rw [h7']; simp
      rw [List.take_take] at this
      rw [Nat.mul_one]
      rw [show min o.length (o.length + 1) = o.length by omega] at this
      exact this
theorem list_snoc {α : Type} (l : List α) : l = [] ∨ ∃ o x, l = o ++ [x] := by
  rcases List.eq_nil_or_concat l with h | ⟨o, x, h⟩
  · exact Or.inl h
  · exact Or.inr ⟨o, x, by simpa using h⟩
theorem names_hand {m : PM} {f : PF} (h : namesOk m f = true) {k : Nat} {x : PH} (hx : f.hands[k]? = some x) : 0 ≤ x.tg ∧ x.tg < f.code.length := by
  unfold namesOk at h
  simp only [Bool.and_eq_true] at h
  have := List.all_eq_true.1 h.1.2 x (List.mem_of_getElem? hx)
  unfold handOk at this
  rw [Bool.and_eq_true] at this
  exact belowB_true this.2
theorem names_instr {m : PM} {f : PF} (h : namesOk m f = true) {k : Nat} {x : PI} (hx : f.code[k]? = some x) : nameOk m f.slots f.code.length x = true := by
  unfold namesOk at h
  simp only [Bool.and_eq_true] at h
  exact List.all_eq_true.1 h.1.1 x (List.mem_of_getElem? hx)

def WaysPost (f : PF) (w : World) (e : Ending) (w' : World) : Prop := Below w.heap.size w w' ∧ ((e = .returned (.bool true) ∧ ¬ BadWays f.code f.hands) ∨ (e = .returned (.bool false) ∧ BadWays f.code f.hands))

set_option maxRecDepth 100000 in
set_option maxHeartbeats 8000000 in
theorem ways_any {m : PM} {w : World} {fb fo : Nat} {C : Nat → Value} {f : PF} (hf : FnAt w fb fo C f) (hs : sizeOk f = true) (hn : namesOk m f = true) :
    Calls Tryd.prog 37 #[.pointer (some ⟨fb, fo, none⟩)] w fun e w' => WaysPost f w e w' := by
  obtain ⟨gc, capc, hC3, hN3, r3⟩ := hf.fn.2.2.2.1
  obtain ⟨gh, caph, hC4, hN4, r4⟩ := hf.fn.2.2.2.2.1
  have c3 := hf.c3
  have c4 := hf.c4
  rw [hC3] at c3
  rw [hC4] at c4
  have hsz : 1 ≤ f.code.length ∧ f.code.length ≤ 5000 := by
    unfold sizeOk at hs
    simp only [Bool.and_eq_true] at hs
    have := inB_true hs.1.1
    omega
  obtain ⟨hl1, hl2⟩ := hsz
  have hmk := run_make_row' (P := Tryd.prog) 27 3 (.int .i64 0) 8 Tryd.underlying27 infoInt rfl .i64 .i64 f.code.length (by omega) (by omega)
  have HC3 := hide c3
  have HC4 := hide c4
  have R3 := hide r3
  have R4 := hide r4
  have HN := hide hn
  clear hf r3 r4 hC3 hC4 hs hn
  go_enter Tryd.func37, Tryd.ntmps37
  go_wp2_with fail
  go_cut [3] (fun p wc => p = .pointer (some ⟨w.heap.size + 1, 0, none⟩) ∧ Hid (Made w wc (.slice gc f.code.length capc) f.code.length 0))
  case first =>
    go_region_held3 (fun w' => w'.cell? ⟨fb, fo + 3, none⟩ = some (.slice gc f.code.length capc)) (go_keep) (fail)
    all_goals
      go_wp2_with fail
      go_meet
      exact ⟨rfl, made_start.drew⟩
  obtain ⟨rfl, HM⟩ := hcut
  have hb1 := (unhide HM).blk
  obtain ⟨t1, hb1⟩ := hb1
  have d1 : wc.cell? ⟨w.heap.size + 1, 1, none⟩ = some (.slice (some ⟨w.heap.size, 0, none⟩) f.code.length f.code.length) := hcell hb1 1
  clear hb1 hmk
  go_wp2_with fail
  go_loopg [26] f.code.length (fun gg i wr => ∃ k : Nat, k ≤ f.code.length ∧ gg = f.code.length - k ∧ i = .int .i64 k ∧ Hid (Made w wr (.slice gc f.code.length capc) f.code.length k))
  case atStart => exact ⟨0, Nat.zero_le _, rfl, rfl, unhide HM⟩
  case round =>
    obtain ⟨k, hk, rfl, rfl, HM⟩ := hrel
    obtain ⟨t1, hb1⟩ := (unhide HM).blk
    obtain ⟨t2, hb2⟩ := (unhide HM).row
    by_cases hlt : k < f.code.length
    · have e1 : wr.cell? ⟨w.heap.size + 1, 1, none⟩ = some (.slice (some ⟨w.heap.size, 0, none⟩) f.code.length f.code.length) := hcell hb1 1
      have ek : wr.cell? ⟨w.heap.size, k, none⟩ = some (.int .i64 0) := ((hcell hb2 k).trans (madeTo_get hlt)).trans (by rw [if_neg (by omega)])
      have fk : wr.frozen? ⟨w.heap.size, k, none⟩ = false := hfroz hb2 k
      have hk2 : (k : Int) < (f.code.length : Int) := by omega
      have HM2 := hide (unhide HM).step
      clear hb1 hb2 d1
      go_wp2_with fail
      go_roundg (f.code.length - (k + 1))
      case measure => omega
      case rel => exact ⟨k + 1, by omega, rfl, by go_num, unhide HM2⟩
    · obtain rfl : k = f.code.length := by omega
      have hff : decide ((f.code.length : Int) < (f.code.length : Int)) = false := by simp
      have HG := hide ((unhide HM).going (hs := f.hands))
      have HBw := hide (unhide HM).below
      clear hb1 hb2 d1 hlt hk HM
      go_wp2_with fail
      refine (come_int (unhide HG).ways (unhide HBw).size rfl hl2 (by simp) 0 0 (by omega) (by omega) (by omega) (by omega)).mono ?_
      rintro e w1 hc
      obtain ⟨hb1, hc⟩ := (unhide HG).come (Reach.start _ _) hc
      have HB1 := hide ((unhide HBw).trans hb1)
      clear hb1
      rcases hc with ⟨rfl, hbad⟩ | ⟨rfl, f1, o1, v1, hg1, hf1, hm1⟩
      · have HBAD := hide hbad
        clear hbad
        go_wp2_with fail
        go_ret
        exact ⟨unhide HB1, Or.inr ⟨rfl, unhide HBAD⟩⟩
      · have HG1 := hide hg1
        have HF1 := hide hf1
        have d4 := cellk (unhide HB1) (unhide HC4) (cell_lt (unhide HC4))
        clear hg1 hf1 hm1 HG HBw
        go_wp2_with fail
        go_loopg [44] f.hands.length (fun gg i wx => ∃ k : Nat, k ≤ f.hands.length ∧ gg = f.hands.length - k ∧ i = .int .i64 k ∧ Hid (Below w.heap.size w wx) ∧ Hid (∃ f2 o2 v2, Going w.heap.size f.code f.hands wx (w.heap.size + 1) w.heap.size (.slice gc f.code.length capc) (fun _ => none) f2 f.code.length f.code.length o2 v2 ∧ f2 0 = some 0 ∧ ∀ (j : Nat) (h : PH), j < k → f.hands[j]? = some h → f2 h.tg.toNat = some 1))
        case atStart => exact ⟨0, Nat.zero_le _, rfl, rfl, unhide HB1, f1, o1, v1, unhide HG1, unhide HF1, fun j h hj => absurd hj (Nat.not_lt_zero j)⟩
        case round =>
          obtain ⟨k, hk, rfl, rfl, HB2, HX⟩ := hrel
          obtain ⟨f2, o2, v2, hg2, hf2, hh2⟩ := unhide HX
          have HG2 := hide hg2
          have HF2 := hide hf2
          have HH2 := hide hh2
          clear hg2 hf2 hh2 HX HG1 HF1
          by_cases hlt : k < f.hands.length
          · have hx : f.hands[k]? = some (f.hands[k]'hlt) := List.getElem?_eq_getElem _
            generalize (f.hands[k]'hlt) = x at *
            obtain ⟨gb, go, rfl, j0, j1, j2⟩ := HandsAt.at (unhide R4) hx hlt
            have l0 := cellk (unhide HB2) j0 (cell_lt j0)
            have l1 := cellk (unhide HB2) j1 (cell_lt j1)
            have l2 := cellk (unhide HB2) j2 (cell_lt j2)
            have hk2 : (k : Int) < (f.hands.length : Int) := by omega
            obtain ⟨ht1, ht2⟩ := names_hand (unhide HN) hx
            have HX := hide hx
            clear hx j0 j1 j2 d4
            go_wp2_with fail
            have hba : Below wr.heap.size wr (wr.alloc (.cells #[.int .i64 x.fr, .int .i64 x.to, .int .i64 x.tg] 90)) := (Below.refl _ _).alloc (Nat.le_refl _) _
            refine (come_int ((unhide HG2).ways.keep hba) (Nat.le_trans (unhide HB2).size hba.size) rfl hl2 ((unhide HG2).olen hl2) _ 1 (by omega) (by omega) (by omega) (by omega)).mono ?_
            rintro e w3 hc
            obtain ⟨hb3, hc⟩ := ((unhide HG2).keep hba).come (n := 1) (Reach.hand (List.mem_of_getElem? (unhide HX))) hc
            have HB3 := hide (((unhide HB2).trans (hba.mono (unhide HB2).size)).trans hb3)
            clear hb3 hba
            rcases hc with ⟨rfl, hbad⟩ | ⟨rfl, f3, o3, v3, hg3, hf3, hm3⟩
            · have HBAD := hide hbad
              clear hbad
              go_wp2_with fail
              go_ret
              exact ⟨unhide HB3, Or.inr ⟨rfl, unhide HBAD⟩⟩
            · have HG3 := hide hg3
              have HF3 := hide hf3
              have HM3 := hide hm3
              clear hg3 hf3 hm3
              go_wp2_with fail
              go_roundg (f.hands.length - (k + 1))
              case measure => omega
              case rel =>
                refine ⟨k + 1, by omega, rfl, by go_num, unhide HB3, f3, o3, v3, unhide HG3, unhide HM3 _ _ (unhide HF2), fun j h hj hh => ?_⟩
                by_cases e : j = k
                · subst e
                  rw [unhide HX] at hh
                  cases hh
                  exact unhide HF3
                · exact unhide HM3 _ _ (unhide HH2 j h (by omega) hh)
          · obtain rfl : k = f.hands.length := by omega
            have hff2 : decide ((f.hands.length : Int) < (f.hands.length : Int)) = false := by simp
            clear hlt hk d4
            go_wp2_with fail
            go_loopg [2] f.code.length (fun gg _ wx => Hid (Below w.heap.size w wx) ∧ gg ≤ f.code.length ∧ Hid (∃ f2 o2 v2, Going w.heap.size f.code f.hands wx (w.heap.size + 1) w.heap.size (.slice gc f.code.length capc) (fun _ => none) f2 gg f.code.length o2 v2 ∧ f2 0 = some 0 ∧ ∀ (j : Nat) (h : PH), f.hands[j]? = some h → f2 h.tg.toNat = some 1))
            case atStart => exact ⟨unhide HB2, Nat.le_refl _, f2, o2, v2, unhide HG2, unhide HF2, fun j h hj => unhide HH2 j h (List.getElem?_eq_some_iff.1 hj).1 hj⟩
            case round =>
              obtain ⟨HB, hgk, HX⟩ := hrel
              obtain ⟨f3, o3, v3, hg3, hf3, hh3⟩ := unhide HX
              clear HX HG2 HF2 HH2 HB2 HB1
              have HF3 := hide hf3
              have HH3 := hide hh3
              clear hf3 hh3
              rcases list_snoc o3 with rfl | ⟨o4, x, rfl⟩
              · have hgood := hg3.book'.good (unhide HF3) (fun h hm => by
                  obtain ⟨j, hj, rfl⟩ := List.getElem_of_mem hm
                  exact unhide HH3 j _ (List.getElem?_eq_getElem hj))
                have HGOOD := hide hgood
                obtain ⟨a0, cap0, hv3⟩ : ∃ a0 cap0, v3 = .slice a0 0 cap0 := by
                  rcases hg3.ways.opn.2 with ⟨e, _⟩ | ⟨g, cap, cur, e, _⟩
                  · exact ⟨none, 0, e⟩
                  · exact ⟨some ⟨g, 0, none⟩, cap, e⟩
                obtain ⟨t5, hb5⟩ := hg3.ways.blk
                have d2 : wr.cell? ⟨w.heap.size + 1, 2, none⟩ = some (.slice a0 0 cap0) := (hcell hb5 2).trans (by rw [hv3]; rfl)
                clear hgood hv3 hb5 hg3
                go_wp2_with fail
                go_ret
                exact ⟨unhide HB, Or.inl ⟨rfl, unhide HGOOD⟩⟩
              · obtain ⟨g, cap, hv3, hcap1, hcap2, cx, hpop⟩ := hg3.ways.pop
                obtain ⟨hbut, hxl, n, hn⟩ := hg3.book'.pop
                obtain ⟨t5, hb5⟩ := hg3.ways.blk
                rw [hv3] at hb5
                have d2 : wr.cell? ⟨w.heap.size + 1, 2, none⟩ = some (.slice (some ⟨g, 0, none⟩) (o4.length + 1) cap) := hcell hb5 2
                have f2' : wr.frozen? ⟨w.heap.size + 1, 2, none⟩ = false := hfroz hb5 2
                have hx : f.code[x]? = some (f.code[x]'hxl) := List.getElem?_eq_getElem _
                have hok := names_instr (unhide HN) hx
                generalize (f.code[x]'hxl) = i at *
                obtain ⟨gb, go, rfl, j0, j1, j2⟩ := InstrsAt.row (unhide R3) hx hxl
                have hsz := hg3.size
                have hol : o4.length + 1 ≤ 5000 := by simp at hsz; omega
                have HBW : Hid (Below w.heap.size w (wr.setCell ⟨w.heap.size + 1, 2, none⟩ (.slice (some ⟨g, 0, none⟩) o4.length cap))) := (unhide HB).setCell (p := ⟨w.heap.size + 1, 2, none⟩) (by simp) _
                have HASK : Hid (GoAsk w.heap.size f.code f.hands (wr.setCell ⟨w.heap.size + 1, 2, none⟩ (.slice (some ⟨g, 0, none⟩) o4.length cap)) (w.heap.size + 1) w.heap.size gb go capc f3 o4 (.slice (some ⟨g, 0, none⟩) o4.length cap) (gk - 1) x n i) :=
                  ⟨⟨hpop, hbut, Mono.refl _, by simp at hsz; omega⟩, (unhide HBW).size, hl2, by omega, hx, hn, (hbut.known.bound _ _ hn).2, cellk (unhide HBW) j0 (cell_lt j0), cellk (unhide HBW) j1 (cell_lt j1), cellk (unhide HBW) j2 (cell_lt j2)⟩
                have HOK := hide hok
                have hgk1 : 1 ≤ gk := by simp at hsz; omega
                unfold maxLen at hcap2
                clear hv3 hpop hbut hn hb5 hx hok j0 j1 j2 hsz hg3
                have q1 : (o4.length : Int) + 1 ≤ (cap : Int) := by omega
                go_wp2_with fail
                refine (goOn_any (unhide HASK) (unhide HOK)).mono ?_
                rintro e w5 ⟨hb5, hc⟩
                have HB5 := hide ((unhide HBW).trans hb5)
                clear hb5
                rcases hc with ⟨rfl, hbad⟩ | ⟨rfl, f5, o5, v5, hw5, hk5, hm5, hs5⟩
                · have HBAD := hide hbad
                  clear hbad
                  go_wp2_with fail
                  go_ret
                  exact ⟨unhide HB5, Or.inr ⟨rfl, unhide HBAD⟩⟩
                · have HW5 := hide hw5
                  have HK5 := hide hk5
                  have HM5 := hide hm5
                  have HS5 := hide hs5
                  clear hw5 hk5 hm5 hs5
                  go_wp2_with fail
                  go_roundg (gk - 1)
                  case measure => omega
                  case rel => exact ⟨unhide HB5, by omega, f5, o5, v5, Going.of_book (unhide HW5) (unhide HK5) (fun p n h => by cases h) (unhide HS5), unhide HM5 _ _ (unhide HF3), fun j h hj => unhide HM5 _ _ (unhide HH3 j h hj)⟩
end Go.Proofs.YtcbgcjkcfolcoaaDoor

namespace Go.Proofs.YtcbgcjkcfolcoaaDoor
open Go.RowKit

/-- A class's cells behind a pointer. -/
structure KdAt (w : World) (b o : Nat) (C : Nat → Value) (c : PK) : Prop where
  c0 : w.cell? ⟨b, o, none⟩ = some (.string c.name)
  c1 : w.cell? ⟨b, o + 1, none⟩ = some (.int .i64 c.above)
  c2 : w.cell? ⟨b, o + 2, none⟩ = some (C 2)
  c3 : w.cell? ⟨b, o + 3, none⟩ = some (C 3)
  c4 : w.cell? ⟨b, o + 4, none⟩ = some (C 4)
  kd : KdIs w C c
theorem KdAt.of_rows {w : World} {g : Option Addr} {n : Nat} {R : Nat → Nat → Value} (h : RowsAt w g n 5 R) {i : Nat} (hi : i < n) {c : PK} (hf : KdIs w (R i) c) : ∃ b o, g = some ⟨b, o, none⟩ ∧ KdAt w b (o + i * 5) (R i) c := by
  obtain ⟨b, o, h1, h2⟩ := h i hi
  refine ⟨b, o, h1, ⟨?_, ?_, h2 2 (by omega), h2 3 (by omega), h2 4 (by omega), hf⟩⟩
  · exact (h2 0 (by omega)).trans (by rw [hf.1])
  · exact (h2 1 (by omega)).trans (by rw [hf.2.1])
theorem IntsAt.at {w : World} {g : Option Addr} {n : Nat} {l : List Int} (h : RowsAt w g n 1 (intRow l)) {x : Nat} {i : Int} (hi : l[x]? = some i) (hn : x < n) : ∃ b o, g = some ⟨b, o, none⟩ ∧ w.cell? ⟨b, o + x, none⟩ = some (.int .i64 i) := by
  obtain ⟨b, o, h1, h2⟩ := h x hn
  refine ⟨b, o, h1, ?_⟩
  have := h2 0 (by omega); rw [intRow, hi] at this
  rw [Nat.mul_one] at this
  exact this

theorem endsP_succ (A : List Int) (n : Nat) (k : Int) : endsP A (n + 1) k = ((oneUp A k == -1) || (belowB (oneUp A k) A.length && endsP A n (oneUp A k))) := rfl

set_option maxRecDepth 100000 in
set_option maxHeartbeats 4000000 in
theorem ends_any {w : World} {b : Nat} {m : PM} {vf vc vk : Value} (h : ImgAt w b m vf vc vk) {p : Nat} (hp : p < m.classes.length) {c : Bool} (hc : endsP (aboves m) m.classes.length p = c) :
    Calls Tryd.prog 34 #[.pointer (some ⟨b, 0, none⟩), .int .i64 p] w fun e w' => e = .returned (.bool c) ∧ w = w' := by
  obtain ⟨R, ⟨g, cap, rfl, hN, hr⟩, hR⟩ := h.img.classes
  have c2 := h.c2
  have HR := hide hr
  have HRR := hide hR
  have HC := hide hc
  clear h hr hR hc
  have hN' : m.classes.length ≤ 9223372036854775807 := by omega
  go_enter Tryd.func34, Tryd.ntmps34
  go_wp2_with fail
  go_loopg [1, 10] m.classes.length (fun gg num i wr => ∃ k q : Nat, k ≤ m.classes.length ∧ gg = m.classes.length - k ∧ i = .int .i64 k ∧ num = .int .i64 q ∧ q < m.classes.length ∧ wr = w ∧ Hid (endsP (aboves m) (m.classes.length - k) q = c))
  case atStart => exact ⟨0, p, Nat.zero_le _, rfl, rfl, rfl, hp, rfl, unhide HC⟩
  case round =>
    obtain ⟨k, q, hk, rfl, rfl, rfl, hq, rfl, HE⟩ := hrel
    by_cases hlt : k < m.classes.length
    · have hx : m.classes[q]? = some (m.classes[q]'hq) := List.getElem?_eq_getElem _
      have hone := oneUp_class hx
      have HKD := hide (unhide HRR q _ hx)
      generalize (m.classes[q]'hq) = x at *
      obtain ⟨gb, go, rfl, hK⟩ := KdAt.of_rows (unhide HR) hq (unhide HKD)
      have k1 := hK.c1
      have hk2 : (k : Int) < (m.classes.length : Int) := by omega
      have hq2 : (q : Int) < (m.classes.length : Int) := by omega
      have hstep : endsP (aboves m) (m.classes.length - k) q = ((x.above == -1) || (belowB x.above m.classes.length && endsP (aboves m) (m.classes.length - (k + 1)) x.above)) := by
        obtain ⟨n, hn⟩ : ∃ n, m.classes.length - k = n + 1 := ⟨m.classes.length - (k + 1), by omega⟩
        rw [hn, show m.classes.length - (k + 1) = n by omega]
        rw [endsP_succ, hone, aboves_length]
      have HS := hide ((unhide HE).symm.trans hstep)
      clear hstep hone hK HKD hx
      cases h1 : (x.above == -1) with
      | true =>
        have HF : Hid (c = true) := by
          show c = true
          rw [unhide HS, h1]; rfl
        go_wp2_with fail
        go_ret
        exact ⟨rb (unhide HF).symm, rfl⟩
      | false =>
        cases h2 : belowB x.above m.classes.length with
        | false =>
          have HF : Hid (c = false) := by
            show c = false
            rw [unhide HS, h1, h2]; rfl
          go_wp2_with (go_at_call 40; refine (below_is h2 _).mono ?_; rintro e w' ⟨rfl, rfl⟩)
          go_ret
          exact ⟨rb (unhide HF).symm, rfl⟩
        | true =>
          obtain ⟨ha1, ha2⟩ := belowB_true h2
          obtain ⟨q', hq'⟩ := Int.eq_ofNat_of_zero_le ha1
          have HF : Hid (endsP (aboves m) (m.classes.length - (k + 1)) x.above = c) := by
            show _ = c
            rw [unhide HS, h1, h2]; rfl
          have HQ := hide hq'
          clear hq'
          go_wp2_with (go_at_call 40; refine (below_is h2 _).mono ?_; rintro e w' ⟨rfl, rfl⟩)
          go_roundg (m.classes.length - (k + 1))
          case measure => omega
          case rel => exact ⟨k + 1, q', by omega, rfl, by go_num, by rw [unhide HQ], by have := unhide HQ; omega, rfl, by rw [← unhide HQ]; exact unhide HF⟩
    · obtain rfl : k = m.classes.length := by omega
      have hff : decide ((m.classes.length : Int) < (m.classes.length : Int)) = false := by simp
      have HF : Hid (c = false) := by
        show c = false
        have := unhide HE
        rw [Nat.sub_self] at this
        rw [← this]; rfl
      go_wp2_with fail
      go_ret
      exact ⟨rb (unhide HF).symm, rfl⟩

def Cls (m : PM) (i : Nat) (x : PK) (w : World) (e : Ending) (w' : World) : Prop := e = .returned (.bool (classOk m i x)) ∧ Below w.heap.size w w'
theorem Cls.mk {m : PM} {i : Nat} {x : PK} {w w' : World} {c : Bool} (hc : c = classOk m i x) (h : Below w.heap.size w w') : Cls m i x w (.returned (.bool c)) w' := by
  rw [hc]; exact ⟨rfl, h⟩

set_option maxRecDepth 100000 in
set_option maxHeartbeats 4000000 in
theorem class_any {w : World} {b : Nat} {m : PM} {vf vc vk : Value} (h : ImgAt w b m vf vc vk) {p : Nat} {x : PK} (hx : m.classes[p]? = some x) :
    Calls Tryd.prog 20 #[.pointer (some ⟨b, 0, none⟩), .int .i64 p] w fun e w' => Cls m p x w e w' := by
  have hp := (List.getElem?_eq_some_iff.1 hx).1
  obtain ⟨R, ⟨g, cap, rfl, hN, hr⟩, hR⟩ := h.img.classes
  have c2 := h.c2
  obtain ⟨gb, go, rfl, hK⟩ := KdAt.of_rows hr hp (hR p x hx)
  have k3 := hK.c3
  have k4 := hK.c4
  obtain ⟨g3, cap3, e3, hN3, _⟩ := hK.kd.2.2.2.1
  obtain ⟨g4, cap4, e4, hN4, r4⟩ := hK.kd.2.2.2.2
  rw [e3] at k3
  rw [e4] at k4
  have H := hide h
  have R4 := hide r4
  have HP := hide hp
  have hp2 : (p : Int) < (m.classes.length : Int) := by omega
  have HD : Hid (classOk m p x = ((x.names.length == x.meths.length) && x.meths.all (callB m) && endsP (aboves m) m.classes.length p)) := rfl
  clear h hr hR hK r4 e3 e4 hx
  cases hl : ((x.names.length : Int) != (x.meths.length : Int)) with
  | true =>
    have HF : Hid (classOk m p x = false) := by
      show classOk m p x = false
      have : (x.names.length == x.meths.length) = false := by
        rw [bne_iff_ne] at hl
        rw [beq_eq_false_iff_ne]
        omega
      rw [unhide HD, this]; rfl
    go_enter Tryd.func20, Tryd.ntmps20
    go_wp2_with fail
    go_quiet (fail)
    go_wp2_with fail
    go_ret
    exact Cls.mk (unhide HF).symm (Bl.drewN (Below.refl _ _) _)
  | false =>
    have HL : Hid ((x.names.length == x.meths.length) = true) := by
      show _ = true
      rw [bne_eq_false_iff_eq] at hl
      rw [beq_iff_eq]
      omega
    go_enter Tryd.func20, Tryd.ntmps20
    go_wp2_with fail
    go_quiet (fail)
    go_wp2_with fail
    go_loopg [30] x.meths.length (fun gg i wr => ∃ k : Nat, k ≤ x.meths.length ∧ gg = x.meths.length - k ∧ i = .int .i64 k ∧ Hid ((x.meths.take k).all (callB m) = true) ∧ wr = w.drewN nq)
    case atStart => exact ⟨0, Nat.zero_le _, rfl, rfl, rfl, rfl⟩
    case round =>
      obtain ⟨k, hk, rfl, rfl, HA, rfl⟩ := hrel
      by_cases hlt : k < x.meths.length
      · have hy : x.meths[k]? = some (x.meths[k]'hlt) := List.getElem?_eq_getElem _
        generalize (x.meths[k]'hlt) = y at *
        obtain ⟨mb, mo, rfl, j0⟩ := IntsAt.at (unhide R4) hy hlt
        have hk2 : (k : Int) < (x.meths.length : Int) := by omega
        have HY := hide hy
        clear hy
        cases hcb : callB m y with
        | false =>
          have HF : Hid (classOk m p x = false) := by
            show classOk m p x = false
            rw [unhide HD, all_of_take (unhide HY) hcb, unhide HL]; rfl
          go_wp2_with (go_at_call 33; refine (callable_is hcb ((unhide H).drewN _)).mono ?_; rintro e w' ⟨rfl, rfl⟩)
          go_ret
          exact Cls.mk (unhide HF).symm (Bl.drewN (Below.refl _ _) _)
        | true =>
          have HA2 : Hid ((x.meths.take (k + 1)).all (callB m) = true) := by
            show _ = true
            rw [all_take_succ (unhide HY), unhide HA, hcb]; rfl
          go_wp2_with (go_at_call 33; refine (callable_is hcb ((unhide H).drewN _)).mono ?_; rintro e w' ⟨rfl, rfl⟩)
          go_roundg (x.meths.length - (k + 1))
          case measure => omega
          case rel => exact ⟨k + 1, by omega, rfl, by go_num, unhide HA2, rfl⟩
      · obtain rfl : k = x.meths.length := by omega
        have hff : decide ((x.meths.length : Int) < (x.meths.length : Int)) = false := by simp
        cases he : endsP (aboves m) m.classes.length p with
        | true =>
          have HF : Hid (classOk m p x = true) := by
            show classOk m p x = true
            have := unhide HA
            rw [List.take_length] at this
            rw [unhide HD, this, unhide HL, he]; rfl
          go_wp2_with (go_at_call 34; refine (ends_any ((unhide H).drewN _) (unhide HP) he).mono ?_; rintro e w' ⟨rfl, rfl⟩)
          go_ret
          exact Cls.mk (unhide HF).symm (Bl.drewN (Below.refl _ _) _)
        | false =>
          have HF : Hid (classOk m p x = false) := by
            show classOk m p x = false
            rw [unhide HD, he]; simp
          go_wp2_with (go_at_call 34; refine (ends_any ((unhide H).drewN _) (unhide HP) he).mono ?_; rintro e w' ⟨rfl, rfl⟩)
          go_ret
          exact Cls.mk (unhide HF).symm (Bl.drewN (Below.refl _ _) _)

def FnPost (m : PM) (f : PF) (w : World) (e : Ending) (w' : World) : Prop := Below w.heap.size w w' ∧ ∃ n, e = .returned (.int .i64 n) ∧ FnErr m f n

set_option maxRecDepth 100000 in
set_option maxHeartbeats 4000000 in
theorem checkFunc_any {w : World} {b : Nat} {m : PM} {vf vc vk : Value} (h : ImgAt w b m vf vc vk) {fb fo : Nat} {C : Nat → Value} {f : PF} (hf : FnAt w fb fo C f) (hin : InB f) :
    Calls Tryd.prog 21 #[.pointer (some ⟨b, 0, none⟩), .pointer (some ⟨fb, fo, none⟩)] w fun e w' => FnPost m f w e w' := by
  have H := hide h
  have HF := hide hf
  have HIN := hide hin
  clear h hf hin
  go_enter Tryd.func21, Tryd.ntmps21
  go_wp2_with fail
  refine (size_any (unhide HF)).mono ?_
  rintro e w1 ⟨rfl, k, rfl⟩
  have HB1 := hide (Bl.drewN (Below.refl w.heap.size w) k)
  cases hs : sizeOk f with
  | false =>
    have HS := hide hs
    go_wp2_with fail
    go_ret
    exact ⟨unhide HB1, _, rfl, Or.inl ⟨unhide HS, rfl⟩⟩
  | true =>
    have HS := hide hs
    go_wp2_with fail
    refine (right_any ((unhide H).drewN _) ((unhide HF).drewN _) (unhide HIN)).mono ?_
    rintro e w2 ⟨rfl, hb2⟩
    have HB2 := hide ((unhide HB1).trans hb2)
    clear hb2
    cases hn : namesOk m f with
    | false =>
      have HN := hide hn
      go_wp2_with fail
      go_ret
      exact ⟨unhide HB2, _, rfl, Or.inr (Or.inl ⟨unhide HS, unhide HN, rfl⟩)⟩
    | true =>
      have HN := hide hn
      go_wp2_with fail
      refine (ways_any ((unhide HF).keep (unhide HB2)) (unhide HS) (unhide HN)).mono ?_
      rintro e w3 ⟨hb3, hc⟩
      have HB3 := hide ((unhide HB2).trans (hb3.mono (unhide HB2).size))
      clear hb3
      rcases hc with ⟨rfl, hc⟩ | ⟨rfl, hc⟩
      · have HC := hide hc
        clear hc
        go_wp2_with fail
        go_ret
        exact ⟨unhide HB3, _, rfl, Or.inr (Or.inr (Or.inr ⟨unhide HS, unhide HN, unhide HC, rfl⟩))⟩
      · have HC := hide hc
        clear hc
        go_wp2_with fail
        go_ret
        exact ⟨unhide HB3, _, rfl, Or.inr (Or.inr (Or.inl ⟨unhide HS, unhide HN, unhide HC, rfl⟩))⟩
end Go.Proofs.YtcbgcjkcfolcoaaDoor

namespace Go.Proofs.YtcbgcjkcfolcoaaDoor
open Go.RowKit

/-- An error and its place, in memory. -/
def ErrAt (w : World) (v : Value) (e p : Int) : Prop :=
  (v = .nilIface ∧ e = 0 ∧ p = -1) ∨ (v = .iface 38 (.int .i64 e) ∧ p = -1) ∨
  (∃ b, v = .iface 100 (.pointer (some ⟨b, 0, none⟩)) ∧ w.cell? ⟨b, 0, none⟩ = some (.int .i64 e) ∧ w.cell? ⟨b, 1, none⟩ = some (.int .i64 p))
theorem ErrAt.keep {w w' : World} {v : Value} {e p : Int} (h : ErrAt w v e p) (hb : Below w.heap.size w w') : ErrAt w' v e p := by
  rcases h with h | h | ⟨b, h1, h2, h3⟩
  · exact Or.inl h
  · exact Or.inr (Or.inl h)
  · exact Or.inr (Or.inr ⟨b, h1, cellk hb h2 (cell_lt h2), cellk hb h3 (cell_lt h3)⟩)

def CheckPost (m : PM) (w : World) (e : Ending) (w' : World) : Prop := Below w.heap.size w w' ∧ ∃ v n p, e = .returned v ∧ ErrAt w' v n p ∧ Verdict m n p

theorem check_nil (w : World) : Calls Tryd.prog 10 #[.pointer none] w fun e w' => e = .returned (.iface 38 (.int .i64 7)) ∧ w = w' := by
  go_enter Tryd.func10, Tryd.ntmps10
  go_wp2_with fail
  go_ret
  exact ⟨rfl, rfl⟩

set_option maxRecDepth 100000 in
set_option maxHeartbeats 4000000 in
theorem check_limit {w : World} {b : Nat} {m : PM} {vf vc vk : Value} (h : ImgAt w b m vf vc vk) (hl : limitOk m = false) :
    Calls Tryd.prog 10 #[.pointer (some ⟨b, 0, none⟩)] w fun e w' => CheckPost m w e w' := by
  have hd : ¬ (1 ≤ m.funcs.length ∧ m.funcs.length ≤ 250 ∧ m.consts.length ≤ 1000 ∧ m.classes.length ≤ 250) := by
    intro hh
    have : limitOk m = true := by
      unfold limitOk inB
      simp
      omega
    rw [this] at hl
    cases hl
  have HL := hide hl
  have c0 := h.c0
  have c1 := h.c1
  have c2 := h.c2
  obtain ⟨_, ⟨gf, capf, rfl, _, _⟩, _⟩ := h.img.funcs
  obtain ⟨gc, capc, rfl, _, _⟩ := h.img.consts
  obtain ⟨_, ⟨gk, capk, rfl, _, _⟩, _⟩ := h.img.classes
  clear h hl
  have fin : Hid (CheckPost m w (.returned (.iface 38 (.int .i64 4))) w) := ⟨Below.refl _ _, _, 4, -1, rfl, Or.inr (Or.inl ⟨rfl, rfl⟩), Or.inl ⟨unhide HL, rfl, rfl⟩⟩
  generalize m.funcs.length = F at *
  generalize m.consts.length = K at *
  generalize m.classes.length = L at *
  by_cases h1 : F = 0
  · have b1 : ((F : Int) == 0) = true := by rw [beq_iff_eq]; omega
    clear hd h1
    go_enter Tryd.func10, Tryd.ntmps10
    go_wp2_with fail
    go_ret
    exact unhide fin
  · have b1 : ((F : Int) == 0) = false := by rw [beq_eq_false_iff_ne]; omega
    by_cases h2 : 250 < F
    · have b2 : decide ((250 : Int) < (F : Int)) = true := by simp; omega
      clear hd h1
      go_enter Tryd.func10, Tryd.ntmps10
      go_wp2_with fail
      go_ret
      exact unhide fin
    · have b2 : decide ((250 : Int) < (F : Int)) = false := by simp; omega
      by_cases h3 : 1000 < K
      · have b3 : decide ((1000 : Int) < (K : Int)) = true := by simp; omega
        clear hd h1
        go_enter Tryd.func10, Tryd.ntmps10
        go_wp2_with fail
        go_ret
        exact unhide fin
      · have b3 : decide ((1000 : Int) < (K : Int)) = false := by simp; omega
        have b4 : decide ((250 : Int) < (L : Int)) = true := by simp; omega
        clear hd h1
        go_enter Tryd.func10, Tryd.ntmps10
        go_wp2_with fail
        go_ret
        exact unhide fin

def InM (m : PM) : Prop := ∀ f ∈ m.funcs, InB f

set_option maxRecDepth 100000 in
set_option maxHeartbeats 8000000 in
theorem check_any {w : World} {b : Nat} {m : PM} {vf vc vk : Value} (h : ImgAt w b m vf vc vk) (hin : InM m) :
    Calls Tryd.prog 10 #[.pointer (some ⟨b, 0, none⟩)] w fun e w' => CheckPost m w e w' := by
  cases hl : limitOk m with
  | false => exact check_limit h hl
  | true =>
    have hd : (1 ≤ m.funcs.length ∧ m.funcs.length ≤ 250 ∧ m.consts.length ≤ 1000 ∧ m.classes.length ≤ 250) := by
      unfold limitOk inB at hl
      simp at hl
      omega
    obtain ⟨hd1, hd2, hd3, hd4⟩ := hd
    have b1 : ((m.funcs.length : Int) == 0) = false := by rw [beq_eq_false_iff_ne]; omega
    have b2 : decide ((250 : Int) < (m.funcs.length : Int)) = false := by simp; omega
    have b3 : decide ((1000 : Int) < (m.consts.length : Int)) = false := by simp; omega
    have b4 : decide ((250 : Int) < (m.classes.length : Int)) = false := by simp; omega
    have HL := hide hl
    have H := hide h
    have HIN := hide hin
    have c0 := h.c0
    have c1 := h.c1
    have c2 := h.c2
    obtain ⟨RF, ⟨gf, capf, rfl, _, rf⟩, hRF⟩ := h.img.funcs
    obtain ⟨gc, capc, rfl, _, _⟩ := h.img.consts
    obtain ⟨_, ⟨gk, capk, rfl, _, _⟩, _⟩ := h.img.classes
    have HRF := hide rf
    have HRR := hide hRF
    have HC0 := hide c0
    clear h hl hin rf hRF
    go_enter Tryd.func10, Tryd.ntmps10
    go_wp2_with fail
    go_loopg [45] m.classes.length (fun gg i wr => ∃ k : Nat, k ≤ m.classes.length ∧ gg = m.classes.length - k ∧ i = .int .i64 k ∧ Hid (∀ (j : Nat) (c : PK), j < k → m.classes[j]? = some c → classOk m j c = true) ∧ Hid (Below w.heap.size w wr))
    case atStart => exact ⟨0, Nat.zero_le _, rfl, rfl, fun j c hj => absurd hj (Nat.not_lt_zero j), Below.refl _ _⟩
    case round =>
      obtain ⟨k, hk, rfl, rfl, HA, HB⟩ := hrel
      by_cases hlt : k < m.classes.length
      · have hx : m.classes[k]? = some (m.classes[k]'hlt) := List.getElem?_eq_getElem _
        generalize (m.classes[k]'hlt) = x at *
        have hk2 : (k : Int) < (m.classes.length : Int) := by omega
        have HX := hide hx
        clear hx c0 c1 c2
        go_wp2_with fail
        refine (class_any ((unhide H).keep (unhide HB)) (unhide HX)).mono ?_
        rintro e w2 ⟨rfl, hb2⟩
        have HB2 := hide ((unhide HB).trans (hb2.mono (unhide HB).size))
        clear hb2
        cases hc : classOk m k x with
        | false =>
          have HC := hide hc
          go_wp2_with fail
          go_ret
          refine ⟨unhide HB2, _, 2, -1, rfl, Or.inr (Or.inl ⟨rfl, rfl⟩), Or.inr (Or.inl ⟨unhide HL, fun hh => ?_, rfl, rfl⟩)⟩
          have := hh k x (unhide HX)
          rw [unhide HC] at this
          cases this
        | true =>
          have HC := hide hc
          go_wp2_with fail
          go_roundg (m.classes.length - (k + 1))
          case measure => omega
          case rel =>
            refine ⟨k + 1, by omega, rfl, by go_num, fun j c hj hcj => ?_, unhide HB2⟩
            by_cases e : j = k
            · subst e
              rw [unhide HX] at hcj
              cases hcj
              exact unhide HC
            · exact unhide HA j c (by omega) hcj
      · obtain rfl : k = m.classes.length := by omega
        have hff : decide ((m.classes.length : Int) < (m.classes.length : Int)) = false := by simp
        have HOK : Hid (ClassesOk m) := fun i c hc => unhide HA i c (List.getElem?_eq_some_iff.1 hc).1 hc
        have d0 := cellk (unhide HB) c0 (cell_lt c0)
        clear c0 c1 c2 HA hlt hk
        go_wp2_with fail
        go_loopg [59] m.funcs.length (fun gg i wr => ∃ k : Nat, k ≤ m.funcs.length ∧ gg = m.funcs.length - k ∧ i = .int .i64 k ∧ Hid (∀ (j : Nat) (g : PF), j < k → m.funcs[j]? = some g → FnErr m g 0) ∧ Hid (Below w.heap.size w wr))
        case atStart => exact ⟨0, Nat.zero_le _, rfl, rfl, fun j c hj => absurd hj (Nat.not_lt_zero j), unhide HB⟩
        case round =>
          obtain ⟨k, hk, rfl, rfl, HA, HB⟩ := hrel
          by_cases hlt : k < m.funcs.length
          · have hx : m.funcs[k]? = some (m.funcs[k]'hlt) := List.getElem?_eq_getElem _
            generalize (m.funcs[k]'hlt) = x at *
            have hk2 : (k : Int) < (m.funcs.length : Int) := by omega
            obtain ⟨gb, go, rfl, hF⟩ := FnAt.of_rows (unhide HRF) hlt (unhide HRR k x hx)
            have HF := hide hF
            have HX := hide hx
            have e0 := cellk (unhide HB) (unhide HC0) (cell_lt (unhide HC0))
            clear hx d0 hF
            go_wp2_with fail
            refine (checkFunc_any ((unhide H).keep (unhide HB)) ((unhide HF).keep (unhide HB)) (unhide HIN x (List.mem_of_getElem? (unhide HX)))).mono ?_
            rintro e w2 ⟨hb2, n, rfl, hn⟩
            have HB2 := hide ((unhide HB).trans (hb2.mono (unhide HB).size))
            have HN := hide hn
            clear hb2 hn
            by_cases h0 : n = 0
            · have hb0 : (n != 0) = false := by rw [bne_eq_false_iff_eq]; exact h0
              have H0 := hide h0
              clear h0
              go_wp2_with fail
              go_roundg (m.funcs.length - (k + 1))
              case measure => omega
              case rel =>
                refine ⟨k + 1, by omega, rfl, by go_num, fun j c hj hcj => ?_, unhide HB2⟩
                by_cases e : j = k
                · subst e
                  rw [unhide HX] at hcj
                  cases hcj
                  have := unhide HN
                  rwa [unhide H0] at this
                · exact unhide HA j c (by omega) hcj
            · have hb0 : (n != 0) = true := by rw [bne_iff_ne]; exact h0
              have H0 := hide h0
              clear h0
              go_wp2_with fail
              go_ret
              refine ⟨(unhide HB2).alloc (unhide HB2).size _, _, n, k, rfl, Or.inr (Or.inr ⟨_, rfl, hcell (hnew _ _) 0, hcell (hnew _ _) 1⟩), Or.inr (Or.inr ⟨unhide HL, unhide HOK, Or.inl ⟨k, x, unhide HX, unhide HN, unhide H0, rfl, unhide HA⟩⟩)⟩
          · obtain rfl : k = m.funcs.length := by omega
            have hff2 : decide ((m.funcs.length : Int) < (m.funcs.length : Int)) = false := by simp
            clear d0 hlt hk
            go_wp2_with fail
            go_ret
            exact ⟨unhide HB, _, 0, -1, rfl, Or.inl ⟨rfl, rfl, rfl⟩, Or.inr (Or.inr ⟨unhide HL, unhide HOK, Or.inr ⟨rfl, rfl, fun j g hj => unhide HA j g (List.getElem?_eq_some_iff.1 hj).1 hj⟩⟩)⟩
end Go.Proofs.YtcbgcjkcfolcoaaDoor

namespace Go.Proofs.YtcbgcjkcfolcoaaDoor
open Go.RowKit

def CheckPostV (m : PM) (w : World) (e : Ending) (w' : World) : Prop := Below w.heap.size w w' ∧ ∃ v n p, e = .returned v ∧ ErrAt w' v n p ∧ (n = 0 → v = .nilIface) ∧ Verdict m n p

set_option maxRecDepth 100000 in
set_option maxHeartbeats 4000000 in
theorem checkV_limit {w : World} {b : Nat} {m : PM} {vf vc vk : Value} (h : ImgAt w b m vf vc vk) (hl : limitOk m = false) :
    Calls Tryd.prog 10 #[.pointer (some ⟨b, 0, none⟩)] w fun e w' => CheckPostV m w e w' := by
  have hd : ¬ (1 ≤ m.funcs.length ∧ m.funcs.length ≤ 250 ∧ m.consts.length ≤ 1000 ∧ m.classes.length ≤ 250) := by
    intro hh
    have : limitOk m = true := by
      unfold limitOk inB
      simp
      omega
    rw [this] at hl
    cases hl
  have HL := hide hl
  have c0 := h.c0
  have c1 := h.c1
  have c2 := h.c2
  obtain ⟨_, ⟨gf, capf, rfl, _, _⟩, _⟩ := h.img.funcs
  obtain ⟨gc, capc, rfl, _, _⟩ := h.img.consts
  obtain ⟨_, ⟨gk, capk, rfl, _, _⟩, _⟩ := h.img.classes
  clear h hl
  have fin : Hid (CheckPostV m w (.returned (.iface 38 (.int .i64 4))) w) := ⟨Below.refl _ _, _, 4, -1, rfl, Or.inr (Or.inl ⟨rfl, rfl⟩), fun q => absurd q (by decide), Or.inl ⟨unhide HL, rfl, rfl⟩⟩
  generalize m.funcs.length = F at *
  generalize m.consts.length = K at *
  generalize m.classes.length = L at *
  by_cases h1 : F = 0
  · have b1 : ((F : Int) == 0) = true := by rw [beq_iff_eq]; omega
    clear hd h1
    go_enter Tryd.func10, Tryd.ntmps10
    go_wp2_with fail
    go_ret
    exact unhide fin
  · have b1 : ((F : Int) == 0) = false := by rw [beq_eq_false_iff_ne]; omega
    by_cases h2 : 250 < F
    · have b2 : decide ((250 : Int) < (F : Int)) = true := by simp; omega
      clear hd h1
      go_enter Tryd.func10, Tryd.ntmps10
      go_wp2_with fail
      go_ret
      exact unhide fin
    · have b2 : decide ((250 : Int) < (F : Int)) = false := by simp; omega
      by_cases h3 : 1000 < K
      · have b3 : decide ((1000 : Int) < (K : Int)) = true := by simp; omega
        clear hd h1
        go_enter Tryd.func10, Tryd.ntmps10
        go_wp2_with fail
        go_ret
        exact unhide fin
      · have b3 : decide ((1000 : Int) < (K : Int)) = false := by simp; omega
        have b4 : decide ((250 : Int) < (L : Int)) = true := by simp; omega
        clear hd h1
        go_enter Tryd.func10, Tryd.ntmps10
        go_wp2_with fail
        go_ret
        exact unhide fin

set_option maxRecDepth 100000 in
set_option maxHeartbeats 8000000 in
theorem checkV_any {w : World} {b : Nat} {m : PM} {vf vc vk : Value} (h : ImgAt w b m vf vc vk) (hin : InM m) :
    Calls Tryd.prog 10 #[.pointer (some ⟨b, 0, none⟩)] w fun e w' => CheckPostV m w e w' := by
  cases hl : limitOk m with
  | false => exact checkV_limit h hl
  | true =>
    have hd : (1 ≤ m.funcs.length ∧ m.funcs.length ≤ 250 ∧ m.consts.length ≤ 1000 ∧ m.classes.length ≤ 250) := by
      unfold limitOk inB at hl
      simp at hl
      omega
    obtain ⟨hd1, hd2, hd3, hd4⟩ := hd
    have b1 : ((m.funcs.length : Int) == 0) = false := by rw [beq_eq_false_iff_ne]; omega
    have b2 : decide ((250 : Int) < (m.funcs.length : Int)) = false := by simp; omega
    have b3 : decide ((1000 : Int) < (m.consts.length : Int)) = false := by simp; omega
    have b4 : decide ((250 : Int) < (m.classes.length : Int)) = false := by simp; omega
    have HL := hide hl
    have H := hide h
    have HIN := hide hin
    have c0 := h.c0
    have c1 := h.c1
    have c2 := h.c2
    obtain ⟨RF, ⟨gf, capf, rfl, _, rf⟩, hRF⟩ := h.img.funcs
    obtain ⟨gc, capc, rfl, _, _⟩ := h.img.consts
    obtain ⟨_, ⟨gk, capk, rfl, _, _⟩, _⟩ := h.img.classes
    have HRF := hide rf
    have HRR := hide hRF
    have HC0 := hide c0
    clear h hl hin rf hRF
    go_enter Tryd.func10, Tryd.ntmps10
    go_wp2_with fail
    go_loopg [45] m.classes.length (fun gg i wr => ∃ k : Nat, k ≤ m.classes.length ∧ gg = m.classes.length - k ∧ i = .int .i64 k ∧ Hid (∀ (j : Nat) (c : PK), j < k → m.classes[j]? = some c → classOk m j c = true) ∧ Hid (Below w.heap.size w wr))
    case atStart => exact ⟨0, Nat.zero_le _, rfl, rfl, fun j c hj => absurd hj (Nat.not_lt_zero j), Below.refl _ _⟩
    case round =>
      obtain ⟨k, hk, rfl, rfl, HA, HB⟩ := hrel
      by_cases hlt : k < m.classes.length
      · have hx : m.classes[k]? = some (m.classes[k]'hlt) := List.getElem?_eq_getElem _
        generalize (m.classes[k]'hlt) = x at *
        have hk2 : (k : Int) < (m.classes.length : Int) := by omega
        have HX := hide hx
        clear hx c0 c1 c2
        go_wp2_with fail
        refine (class_any ((unhide H).keep (unhide HB)) (unhide HX)).mono ?_
        rintro e w2 ⟨rfl, hb2⟩
        have HB2 := hide ((unhide HB).trans (hb2.mono (unhide HB).size))
        clear hb2
        cases hc : classOk m k x with
        | false =>
          have HC := hide hc
          go_wp2_with fail
          go_ret
          refine ⟨unhide HB2, _, 2, -1, rfl, Or.inr (Or.inl ⟨rfl, rfl⟩), fun q => absurd q (by decide), Or.inr (Or.inl ⟨unhide HL, fun hh => ?_, rfl, rfl⟩)⟩
          have := hh k x (unhide HX)
          rw [unhide HC] at this
          cases this
        | true =>
          have HC := hide hc
          go_wp2_with fail
          go_roundg (m.classes.length - (k + 1))
          case measure => omega
          case rel =>
            refine ⟨k + 1, by omega, rfl, by go_num, fun j c hj hcj => ?_, unhide HB2⟩
            by_cases e : j = k
            · subst e
              rw [unhide HX] at hcj
              cases hcj
              exact unhide HC
            · exact unhide HA j c (by omega) hcj
      · obtain rfl : k = m.classes.length := by omega
        have hff : decide ((m.classes.length : Int) < (m.classes.length : Int)) = false := by simp
        have HOK : Hid (ClassesOk m) := fun i c hc => unhide HA i c (List.getElem?_eq_some_iff.1 hc).1 hc
        have d0 := cellk (unhide HB) c0 (cell_lt c0)
        clear c0 c1 c2 HA hlt hk
        go_wp2_with fail
        go_loopg [59] m.funcs.length (fun gg i wr => ∃ k : Nat, k ≤ m.funcs.length ∧ gg = m.funcs.length - k ∧ i = .int .i64 k ∧ Hid (∀ (j : Nat) (g : PF), j < k → m.funcs[j]? = some g → FnErr m g 0) ∧ Hid (Below w.heap.size w wr))
        case atStart => exact ⟨0, Nat.zero_le _, rfl, rfl, fun j c hj => absurd hj (Nat.not_lt_zero j), unhide HB⟩
        case round =>
          obtain ⟨k, hk, rfl, rfl, HA, HB⟩ := hrel
          by_cases hlt : k < m.funcs.length
          · have hx : m.funcs[k]? = some (m.funcs[k]'hlt) := List.getElem?_eq_getElem _
            generalize (m.funcs[k]'hlt) = x at *
            have hk2 : (k : Int) < (m.funcs.length : Int) := by omega
            obtain ⟨gb, go, rfl, hF⟩ := FnAt.of_rows (unhide HRF) hlt (unhide HRR k x hx)
            have HF := hide hF
            have HX := hide hx
            have e0 := cellk (unhide HB) (unhide HC0) (cell_lt (unhide HC0))
            clear hx d0 hF
            go_wp2_with fail
            refine (checkFunc_any ((unhide H).keep (unhide HB)) ((unhide HF).keep (unhide HB)) (unhide HIN x (List.mem_of_getElem? (unhide HX)))).mono ?_
            rintro e w2 ⟨hb2, n, rfl, hn⟩
            have HB2 := hide ((unhide HB).trans (hb2.mono (unhide HB).size))
            have HN := hide hn
            clear hb2 hn
            by_cases h0 : n = 0
            · have hb0 : (n != 0) = false := by rw [bne_eq_false_iff_eq]; exact h0
              have H0 := hide h0
              clear h0
              go_wp2_with fail
              go_roundg (m.funcs.length - (k + 1))
              case measure => omega
              case rel =>
                refine ⟨k + 1, by omega, rfl, by go_num, fun j c hj hcj => ?_, unhide HB2⟩
                by_cases e : j = k
                · subst e
                  rw [unhide HX] at hcj
                  cases hcj
                  have := unhide HN
                  rwa [unhide H0] at this
                · exact unhide HA j c (by omega) hcj
            · have hb0 : (n != 0) = true := by rw [bne_iff_ne]; exact h0
              have H0 := hide h0
              clear h0
              go_wp2_with fail
              go_ret
              refine ⟨(unhide HB2).alloc (unhide HB2).size _, _, n, k, rfl, Or.inr (Or.inr ⟨_, rfl, hcell (hnew _ _) 0, hcell (hnew _ _) 1⟩), fun q => absurd q (unhide H0), Or.inr (Or.inr ⟨unhide HL, unhide HOK, Or.inl ⟨k, x, unhide HX, unhide HN, unhide H0, rfl, unhide HA⟩⟩)⟩
          · obtain rfl : k = m.funcs.length := by omega
            have hff2 : decide ((m.funcs.length : Int) < (m.funcs.length : Int)) = false := by simp
            clear d0 hlt hk
            go_wp2_with fail
            go_ret
            exact ⟨unhide HB, _, 0, -1, rfl, Or.inl ⟨rfl, rfl, rfl⟩, fun _ => rfl, Or.inr (Or.inr ⟨unhide HL, unhide HOK, Or.inr ⟨rfl, rfl, fun j g hj => unhide HA j g (List.getElem?_eq_some_iff.1 hj).1 hj⟩⟩)⟩
end Go.Proofs.YtcbgcjkcfolcoaaDoor
