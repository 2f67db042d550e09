/-
  The ways through a function's code, walked.
-/
import Derived.Test.YtpfhnmgfcmkidaaDoorCGoOn
import Derived.Test.YtpfhnmgfcmkidaaDoorCRight
import Derived.Deep.OwnRows
namespace Go.Proofs.YtpfhnmgfcmkidaaDoor
open Go.RowKit

/-- The values' row while it is being made: so many are -1. -/
def madeTo (N k : Nat) : Array Value := ((List.range N).map fun p => if p < k then Value.int .i64 (-1) else .int .i64 0).toArray
theorem madeTo_zero (N : Nat) : madeCells #[.int .i64 0] N = madeTo N 0 := by
  apply Array.ext_getElem?
  intro i
  by_cases h : i < N
  · simp [madeCells, madeTo, h, Nat.mod_one]
  · simp [madeCells, madeTo, h]
theorem madeTo_size (N k : Nat) : (madeTo N k).size = N := by simp [madeTo]
theorem madeTo_get {N k p : Nat} (h : p < N) : (madeTo N k)[p]? = some (if p < k then .int .i64 (-1) else .int .i64 0) := by
  simp [madeTo, h]
theorem madeTo_set (N k : Nat) : (madeTo N k).setIfInBounds k (.int .i64 (-1)) = madeTo N (k + 1) := by
  apply Array.ext_getElem?
  intro i
  rw [Array.getElem?_setIfInBounds]
  by_cases hi : i < N
  · rw [madeTo_get hi, madeTo_get hi]
    by_cases e : k = i
    · subst e
      rw [if_pos rfl, if_pos (by rw [madeTo_size]; exact hi), if_pos (by omega)]
    · rw [if_neg e]
      by_cases h : i < k
      · rw [if_pos h, if_pos (by omega)]
      · rw [if_neg h, if_neg (by omega)]
  · have h1 : (madeTo N k)[i]? = none := Array.getElem?_eq_none (by rw [madeTo_size]; omega)
    have h2 : (madeTo N (k + 1))[i]? = none := Array.getElem?_eq_none (by rw [madeTo_size]; omega)
    rw [h1, h2]
    by_cases e : k = i
    · subst e
      rw [if_pos rfl, if_neg (by rw [madeTo_size]; exact hi)]
    · rw [if_neg e]
theorem madeTo_all (N : Nat) : madeTo N N = notedCells N (fun _ => none) := by
  apply Array.ext_getElem?
  intro i
  by_cases hi : i < N
  · rw [madeTo_get hi, notedCells_get hi, if_pos hi]; rfl
  · rw [Array.getElem?_eq_none (by rw [madeTo_size]; omega), Array.getElem?_eq_none (by rw [notedCells_size]; omega)]

/-- The struct and its row while that is being made. -/
structure Made (w wr : World) (vcode : Value) (N k : Nat) : Prop where
  below : Below w.heap.size w wr
  blk : ∃ t, wr.heap[w.heap.size + 1]? = some (.cells #[vcode, .slice (some ⟨w.heap.size, 0, none⟩) N N, .slice none 0 0] t (0, 0))
  row : ∃ t, wr.heap[w.heap.size]? = some (.cells (madeTo N k) t (0, 0))

theorem made_start {w : World} {vcode : Value} {N : Nat} {t1 t2 : TypeId} : Made w ((w.alloc (.cells (madeCells #[.int .i64 0] N) t1)).alloc (.cells #[vcode, .slice (some ⟨w.heap.size, 0, none⟩) N N, .slice none 0 0] t2)) vcode N 0 := by
  have h1 : (w.alloc (.cells (madeCells #[.int .i64 0] N) t1)).heap.size = w.heap.size + 1 := by simp
  refine ⟨((Below.refl _ _).alloc (Nat.le_refl _) _).alloc (by omega) _, ⟨t2, ?_⟩, ⟨t1, ?_⟩⟩
  · rw [← h1]; exact hnew _ _
  · rw [Below.heap_alloc _ _ _ (by omega), ← madeTo_zero]; exact hnew _ _
theorem Made.drewN {w wr : World} {vcode : Value} {N k : Nat} (h : Made w wr vcode N k) (n : Nat) : Made w (wr.drewN n) vcode N k := ⟨Bl.drewN h.below n, h.blk, h.row⟩
theorem Made.drew {w wr : World} {vcode : Value} {N k : Nat} (h : Made w wr vcode N k) : Made w wr.drew vcode N k := ⟨h.below.drew, h.blk, h.row⟩
theorem Made.step {w wr : World} {vcode : Value} {N k : Nat} (h : Made w wr vcode N k) : Made w (wr.setCell ⟨w.heap.size, k, none⟩ (.int .i64 (-1))) vcode N (k + 1) := by
  obtain ⟨h1, ⟨t2, h2⟩, ⟨t3, h3⟩⟩ := h
  exact ⟨h1.setCell (p := ⟨w.heap.size, k, none⟩) (Nat.le_refl _) _, ⟨t2, (hother _ (by omega)).trans h2⟩, ⟨t3, by rw [hset h3, madeTo_set]⟩⟩
theorem unset_none : ∀ N, unset (fun _ => none) N = N
  | 0 => rfl
  | n + 1 => by unfold unset; rw [unset_none n]; simp
theorem Made.going {w wr : World} {vcode : Value} {c : List PI} {hs : List PH} (h : Made w wr vcode c.length c.length) : Going w.heap.size c hs wr (w.heap.size + 1) w.heap.size vcode (fun _ => none) (fun _ => none) c.length c.length [] (.slice none 0 0) := by
  obtain ⟨h1, ⟨t2, h2⟩, ⟨t3, h3⟩⟩ := h
  rw [madeTo_all] at h3
  refine ⟨⟨by omega, Nat.le_refl _, by omega, fun j hj => by simp [Value.ownBlock] at hj, ⟨t2, h2⟩, ⟨t3, h3⟩, rfl, Or.inl ⟨rfl, rfl⟩⟩, ⟨⟨fun p n h => (by cases h), fun p n h => (by cases h)⟩, fun p hp => (by cases hp), fun p hp => absurd rfl hp⟩, Mono.refl _, by rw [unset_none]; rfl⟩

/-- Whoever is being gone on from, where nobody is. -/
theorem Going.book' {B : Nat} {c : List PI} {hs : List PH} {w : World} {r vb : Nat} {vcode vopen : Value} {f0 f : Nat → Option Nat} {u : Nat} {o : List Nat} (h : Going B c hs w r vb vcode f0 f u c.length o vopen) : Book c hs f o := by
  refine h.book.close fun n i hn _ => ?_
  have := (h.book.known.bound _ _ hn).1
  omega
theorem Going.of_book {B : Nat} {c : List PI} {hs : List PH} {w : World} {r vb : Nat} {vcode vopen : Value} {f0 f : Nat → Option Nat} {u x : Nat} {o : List Nat} (h1 : WaysAt B w r vb vcode vopen c.length f o) (h2 : Book c hs f o) (h3 : Mono f0 f) (h4 : unset f c.length + o.length = u) : Going B c hs w r vb vcode f0 f u x o vopen :=
  ⟨h1, ⟨h2.known, h2.opened, fun p a b _ => h2.done p a b⟩, h3, h4⟩

theorem WaysAt.pop {B : Nat} {w : World} {r vb : Nat} {vcode vopen : Value} {N : Nat} {f : Nat → Option Nat} {o : List Nat} {x : Nat} (h : WaysAt B w r vb vcode vopen N f (o ++ [x])) :
    ∃ g cap, vopen = .slice (some ⟨g, 0, none⟩) (o.length + 1) cap ∧ o.length + 1 ≤ cap ∧ cap ≤ maxLen ∧ w.cell? ⟨g, o.length, none⟩ = some (.int .i64 x) ∧ WaysAt B (w.setCell ⟨r, 2, none⟩ (.slice (some ⟨g, 0, none⟩) o.length cap)) r vb vcode (.slice (some ⟨g, 0, none⟩) o.length cap) N f o := by
  obtain ⟨r0, vb0, ne, ro, ⟨t1, b1⟩, ⟨t2, b2⟩, hop⟩ := h
  rcases hop.2 with ⟨_, h⟩ | ⟨g, cap, cur, h1, h2, h3, h4, h5, h6, h7⟩
  · simp at h
  · have hl : (o ++ [x]).length = o.length + 1 := by simp
    rw [hl] at h1 h4 h7
    obtain ⟨q1, q2, q3⟩ := ro g (by rw [h1]; rfl)
    have h7' : cur.toList.take (o.length + 1) = o.map natV ++ [natV x] := by rw [Nat.mul_one] at h7; rw [h7]; simp
    refine ⟨g, cap, h1, h4, h5, ?_, ⟨r0, vb0, ne, fun j hj => ?_, ⟨t1, by rw [hset b1]; rfl⟩, ⟨t2, (hother _ ne).trans b2⟩, by simp, ?_⟩⟩
    · rw [hcell h3, ← Array.getElem?_toList]
      have : (cur.toList.take (o.length + 1))[o.length]? = some (natV x) := by rw [h7']; simp
      rw [List.getElem?_take] at this
      simpa [natV] using this
    · simp only [Value.ownBlock, Option.some.injEq] at hj
      subst hj
      exact ⟨q1, q2, q3⟩
    · refine Or.inr ⟨g, cap, cur, rfl, h2, (hother _ q2).trans h3, by omega, h5, h6, ?_⟩
      have : (cur.toList.take (o.length + 1)).take o.length = o.map natV := by rw [h7']; simp
      rw [List.take_take] at this
      rw [Nat.mul_one]
      rw [show min o.length (o.length + 1) = o.length by omega] at this
      exact this
theorem list_snoc {α : Type} (l : List α) : l = [] ∨ ∃ o x, l = o ++ [x] := by
  rcases List.eq_nil_or_concat l with h | ⟨o, x, h⟩
  · exact Or.inl h
  · exact Or.inr ⟨o, x, by simpa using h⟩
theorem names_hand {m : PM} {f : PF} (h : namesOk m f = true) {k : Nat} {x : PH} (hx : f.hands[k]? = some x) : 0 ≤ x.tg ∧ x.tg < f.code.length := by
  unfold namesOk at h
  simp only [Bool.and_eq_true] at h
  have := List.all_eq_true.1 h.1.2 x (List.mem_of_getElem? hx)
  unfold handOk at this
  rw [Bool.and_eq_true] at this
  exact belowB_true this.2
theorem names_instr {m : PM} {f : PF} (h : namesOk m f = true) {k : Nat} {x : PI} (hx : f.code[k]? = some x) : nameOk m f.slots f.code.length x = true := by
  unfold namesOk at h
  simp only [Bool.and_eq_true] at h
  exact List.all_eq_true.1 h.1.1 x (List.mem_of_getElem? hx)

def WaysPost (f : PF) (w : World) (e : Ending) (w' : World) : Prop := Below w.heap.size w w' ∧ ((e = .returned (.bool true) ∧ ¬ BadWays f.code f.hands) ∨ (e = .returned (.bool false) ∧ BadWays f.code f.hands))

set_option maxRecDepth 100000 in
set_option maxHeartbeats 8000000 in
theorem ways_any {m : PM} {w : World} {fb fo : Nat} {C : Nat → Value} {f : PF} (hf : FnAt w fb fo C f) (hs : sizeOk f = true) (hn : namesOk m f = true) :
    Calls Tryd.prog 29 #[.pointer (some ⟨fb, fo, none⟩)] w fun e w' => WaysPost f w e w' := by
  obtain ⟨gc, capc, hC3, hN3, r3⟩ := hf.fn.2.2.2.1
  obtain ⟨gh, caph, hC4, hN4, r4⟩ := hf.fn.2.2.2.2.1
  have c3 := hf.c3
  have c4 := hf.c4
  rw [hC3] at c3
  rw [hC4] at c4
  have hsz : 1 ≤ f.code.length ∧ f.code.length ≤ 5000 := by
    unfold sizeOk at hs
    simp only [Bool.and_eq_true] at hs
    have := inB_true hs.1.1
    omega
  obtain ⟨hl1, hl2⟩ := hsz
  have hmk := run_make_row' (P := Tryd.prog) 53 3 (.int .i64 0) 8 Tryd.underlying53 infoInt rfl .i64 .i64 f.code.length (by omega) (by omega)
  have HC3 := hide c3
  have HC4 := hide c4
  have R3 := hide r3
  have R4 := hide r4
  have HN := hide hn
  clear hf r3 r4 hC3 hC4 hs hn
  go_enter Tryd.func29, Tryd.ntmps29
  go_wp2_with fail
  go_cut [3] (fun p wc => p = .pointer (some ⟨w.heap.size + 1, 0, none⟩) ∧ Hid (Made w wc (.slice gc f.code.length capc) f.code.length 0))
  case first =>
    go_region_held3 (fun w' => w'.cell? ⟨fb, fo + 3, none⟩ = some (.slice gc f.code.length capc)) (go_keep) (fail)
    all_goals
      go_wp2_with fail
      go_meet
      exact ⟨rfl, made_start.drew⟩
  obtain ⟨rfl, HM⟩ := hcut
  have hb1 := (unhide HM).blk
  obtain ⟨t1, hb1⟩ := hb1
  have d1 : wc.cell? ⟨w.heap.size + 1, 1, none⟩ = some (.slice (some ⟨w.heap.size, 0, none⟩) f.code.length f.code.length) := hcell hb1 1
  clear hb1 hmk
  go_wp2_with fail
  go_loopg [26] f.code.length (fun gg i wr => ∃ k : Nat, k ≤ f.code.length ∧ gg = f.code.length - k ∧ i = .int .i64 k ∧ Hid (Made w wr (.slice gc f.code.length capc) f.code.length k))
  case atStart => exact ⟨0, Nat.zero_le _, rfl, rfl, unhide HM⟩
  case round =>
    obtain ⟨k, hk, rfl, rfl, HM⟩ := hrel
    obtain ⟨t1, hb1⟩ := (unhide HM).blk
    obtain ⟨t2, hb2⟩ := (unhide HM).row
    by_cases hlt : k < f.code.length
    · have e1 : wr.cell? ⟨w.heap.size + 1, 1, none⟩ = some (.slice (some ⟨w.heap.size, 0, none⟩) f.code.length f.code.length) := hcell hb1 1
      have ek : wr.cell? ⟨w.heap.size, k, none⟩ = some (.int .i64 0) := ((hcell hb2 k).trans (madeTo_get hlt)).trans (by rw [if_neg (by omega)])
      have fk : wr.frozen? ⟨w.heap.size, k, none⟩ = false := hfroz hb2 k
      have hk2 : (k : Int) < (f.code.length : Int) := by omega
      have HM2 := hide (unhide HM).step
      clear hb1 hb2 d1
      go_wp2_with fail
      go_roundg (f.code.length - (k + 1))
      case measure => omega
      case rel => exact ⟨k + 1, by omega, rfl, by go_num, unhide HM2⟩
    · obtain rfl : k = f.code.length := by omega
      have hff : decide ((f.code.length : Int) < (f.code.length : Int)) = false := by simp
      have HG := hide ((unhide HM).going (hs := f.hands))
      have HBw := hide (unhide HM).below
      clear hb1 hb2 d1 hlt hk HM
      go_wp2_with fail
      refine (come_int (unhide HG).ways (unhide HBw).size rfl hl2 (by simp) 0 0 (by omega) (by omega) (by omega) (by omega)).mono ?_
      rintro e w1 hc
      obtain ⟨hb1, hc⟩ := (unhide HG).come (Reach.start _ _) hc
      have HB1 := hide ((unhide HBw).trans hb1)
      clear hb1
      rcases hc with ⟨rfl, hbad⟩ | ⟨rfl, f1, o1, v1, hg1, hf1, hm1⟩
      · have HBAD := hide hbad
        clear hbad
        go_wp2_with fail
        go_ret
        exact ⟨unhide HB1, Or.inr ⟨rfl, unhide HBAD⟩⟩
      · have HG1 := hide hg1
        have HF1 := hide hf1
        have d4 := cellk (unhide HB1) (unhide HC4) (cell_lt (unhide HC4))
        clear hg1 hf1 hm1 HG HBw
        go_wp2_with fail
        go_loopg [44] f.hands.length (fun gg i wx => ∃ k : Nat, k ≤ f.hands.length ∧ gg = f.hands.length - k ∧ i = .int .i64 k ∧ Hid (Below w.heap.size w wx) ∧ Hid (∃ f2 o2 v2, Going w.heap.size f.code f.hands wx (w.heap.size + 1) w.heap.size (.slice gc f.code.length capc) (fun _ => none) f2 f.code.length f.code.length o2 v2 ∧ f2 0 = some 0 ∧ ∀ (j : Nat) (h : PH), j < k → f.hands[j]? = some h → f2 h.tg.toNat = some 1))
        case atStart => exact ⟨0, Nat.zero_le _, rfl, rfl, unhide HB1, f1, o1, v1, unhide HG1, unhide HF1, fun j h hj => absurd hj (Nat.not_lt_zero j)⟩
        case round =>
          obtain ⟨k, hk, rfl, rfl, HB2, HX⟩ := hrel
          obtain ⟨f2, o2, v2, hg2, hf2, hh2⟩ := unhide HX
          have HG2 := hide hg2
          have HF2 := hide hf2
          have HH2 := hide hh2
          clear hg2 hf2 hh2 HX HG1 HF1
          by_cases hlt : k < f.hands.length
          · have hx : f.hands[k]? = some (f.hands[k]'hlt) := List.getElem?_eq_getElem _
            generalize (f.hands[k]'hlt) = x at *
            obtain ⟨gb, go, rfl, j0, j1, j2⟩ := HandsAt.at (unhide R4) hx hlt
            have l0 := cellk (unhide HB2) j0 (cell_lt j0)
            have l1 := cellk (unhide HB2) j1 (cell_lt j1)
            have l2 := cellk (unhide HB2) j2 (cell_lt j2)
            have hk2 : (k : Int) < (f.hands.length : Int) := by omega
            obtain ⟨ht1, ht2⟩ := names_hand (unhide HN) hx
            have HX := hide hx
            clear hx j0 j1 j2 d4
            go_wp2_with fail
            have hba : Below wr.heap.size wr (wr.alloc (.cells #[.int .i64 x.fr, .int .i64 x.to, .int .i64 x.tg] 82)) := (Below.refl _ _).alloc (Nat.le_refl _) _
            refine (come_int ((unhide HG2).ways.keep hba) (Nat.le_trans (unhide HB2).size hba.size) rfl hl2 ((unhide HG2).olen hl2) _ 1 (by omega) (by omega) (by omega) (by omega)).mono ?_
            rintro e w3 hc
            obtain ⟨hb3, hc⟩ := ((unhide HG2).keep hba).come (n := 1) (Reach.hand (List.mem_of_getElem? (unhide HX))) hc
            have HB3 := hide (((unhide HB2).trans (hba.mono (unhide HB2).size)).trans hb3)
            clear hb3 hba
            rcases hc with ⟨rfl, hbad⟩ | ⟨rfl, f3, o3, v3, hg3, hf3, hm3⟩
            · have HBAD := hide hbad
              clear hbad
              go_wp2_with fail
              go_ret
              exact ⟨unhide HB3, Or.inr ⟨rfl, unhide HBAD⟩⟩
            · have HG3 := hide hg3
              have HF3 := hide hf3
              have HM3 := hide hm3
              clear hg3 hf3 hm3
              go_wp2_with fail
              go_roundg (f.hands.length - (k + 1))
              case measure => omega
              case rel =>
                refine ⟨k + 1, by omega, rfl, by go_num, unhide HB3, f3, o3, v3, unhide HG3, unhide HM3 _ _ (unhide HF2), fun j h hj hh => ?_⟩
                by_cases e : j = k
                · subst e
                  rw [unhide HX] at hh
                  cases hh
                  exact unhide HF3
                · exact unhide HM3 _ _ (unhide HH2 j h (by omega) hh)
          · obtain rfl : k = f.hands.length := by omega
            have hff2 : decide ((f.hands.length : Int) < (f.hands.length : Int)) = false := by simp
            clear hlt hk d4
            go_wp2_with fail
            go_loopg [2] f.code.length (fun gg _ wx => Hid (Below w.heap.size w wx) ∧ gg ≤ f.code.length ∧ Hid (∃ f2 o2 v2, Going w.heap.size f.code f.hands wx (w.heap.size + 1) w.heap.size (.slice gc f.code.length capc) (fun _ => none) f2 gg f.code.length o2 v2 ∧ f2 0 = some 0 ∧ ∀ (j : Nat) (h : PH), f.hands[j]? = some h → f2 h.tg.toNat = some 1))
            case atStart => exact ⟨unhide HB2, Nat.le_refl _, f2, o2, v2, unhide HG2, unhide HF2, fun j h hj => unhide HH2 j h (List.getElem?_eq_some_iff.1 hj).1 hj⟩
            case round =>
              obtain ⟨HB, hgk, HX⟩ := hrel
              obtain ⟨f3, o3, v3, hg3, hf3, hh3⟩ := unhide HX
              clear HX HG2 HF2 HH2 HB2 HB1
              have HF3 := hide hf3
              have HH3 := hide hh3
              clear hf3 hh3
              rcases list_snoc o3 with rfl | ⟨o4, x, rfl⟩
              · have hgood := hg3.book'.good (unhide HF3) (fun h hm => by
                  obtain ⟨j, hj, rfl⟩ := List.getElem_of_mem hm
                  exact unhide HH3 j _ (List.getElem?_eq_getElem hj))
                have HGOOD := hide hgood
                obtain ⟨a0, cap0, hv3⟩ : ∃ a0 cap0, v3 = .slice a0 0 cap0 := by
                  rcases hg3.ways.opn.2 with ⟨e, _⟩ | ⟨g, cap, cur, e, _⟩
                  · exact ⟨none, 0, e⟩
                  · exact ⟨some ⟨g, 0, none⟩, cap, e⟩
                obtain ⟨t5, hb5⟩ := hg3.ways.blk
                have d2 : wr.cell? ⟨w.heap.size + 1, 2, none⟩ = some (.slice a0 0 cap0) := (hcell hb5 2).trans (by rw [hv3]; rfl)
                clear hgood hv3 hb5 hg3
                go_wp2_with fail
                go_ret
                exact ⟨unhide HB, Or.inl ⟨rfl, unhide HGOOD⟩⟩
              · obtain ⟨g, cap, hv3, hcap1, hcap2, cx, hpop⟩ := hg3.ways.pop
                obtain ⟨hbut, hxl, n, hn⟩ := hg3.book'.pop
                obtain ⟨t5, hb5⟩ := hg3.ways.blk
                rw [hv3] at hb5
                have d2 : wr.cell? ⟨w.heap.size + 1, 2, none⟩ = some (.slice (some ⟨g, 0, none⟩) (o4.length + 1) cap) := hcell hb5 2
                have f2' : wr.frozen? ⟨w.heap.size + 1, 2, none⟩ = false := hfroz hb5 2
                have hx : f.code[x]? = some (f.code[x]'hxl) := List.getElem?_eq_getElem _
                have hok := names_instr (unhide HN) hx
                generalize (f.code[x]'hxl) = i at *
                obtain ⟨gb, go, rfl, j0, j1, j2⟩ := InstrsAt.row (unhide R3) hx hxl
                have hsz := hg3.size
                have hol : o4.length + 1 ≤ 5000 := by simp at hsz; omega
                have HBW : Hid (Below w.heap.size w (wr.setCell ⟨w.heap.size + 1, 2, none⟩ (.slice (some ⟨g, 0, none⟩) o4.length cap))) := (unhide HB).setCell (p := ⟨w.heap.size + 1, 2, none⟩) (by simp) _
                have HASK : Hid (GoAsk w.heap.size f.code f.hands (wr.setCell ⟨w.heap.size + 1, 2, none⟩ (.slice (some ⟨g, 0, none⟩) o4.length cap)) (w.heap.size + 1) w.heap.size gb go capc f3 o4 (.slice (some ⟨g, 0, none⟩) o4.length cap) (gk - 1) x n i) :=
                  ⟨⟨hpop, hbut, Mono.refl _, by simp at hsz; omega⟩, (unhide HBW).size, hl2, by omega, hx, hn, (hbut.known.bound _ _ hn).2, cellk (unhide HBW) j0 (cell_lt j0), cellk (unhide HBW) j1 (cell_lt j1), cellk (unhide HBW) j2 (cell_lt j2)⟩
                have HOK := hide hok
                have hgk1 : 1 ≤ gk := by simp at hsz; omega
                unfold maxLen at hcap2
                clear hv3 hpop hbut hn hb5 hx hok j0 j1 j2 hsz hg3
                have q1 : (o4.length : Int) + 1 ≤ (cap : Int) := by omega
                go_wp2_with fail
                refine (goOn_any (unhide HASK) (unhide HOK)).mono ?_
                rintro e w5 ⟨hb5, hc⟩
                have HB5 := hide ((unhide HBW).trans hb5)
                clear hb5
                rcases hc with ⟨rfl, hbad⟩ | ⟨rfl, f5, o5, v5, hw5, hk5, hm5, hs5⟩
                · have HBAD := hide hbad
                  clear hbad
                  go_wp2_with fail
                  go_ret
                  exact ⟨unhide HB5, Or.inr ⟨rfl, unhide HBAD⟩⟩
                · have HW5 := hide hw5
                  have HK5 := hide hk5
                  have HM5 := hide hm5
                  have HS5 := hide hs5
                  clear hw5 hk5 hm5 hs5
                  go_wp2_with fail
                  go_roundg (gk - 1)
                  case measure => omega
                  case rel => exact ⟨unhide HB5, by omega, f5, o5, v5, Going.of_book (unhide HW5) (unhide HK5) (fun p n h => by cases h) (unhide HS5), unhide HM5 _ _ (unhide HF3), fun j h hj => unhide HM5 _ _ (unhide HH3 j h hj)⟩
end Go.Proofs.YtpfhnmgfcmkidaaDoor
