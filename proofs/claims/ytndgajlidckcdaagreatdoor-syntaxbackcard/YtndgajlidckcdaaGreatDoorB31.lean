/-
  A fact: a program of one statement, read and written.
-/
import Derived.Test.YtndgajlidckcdaaGreatDoorB30
namespace Go.Proofs.YtndgajlidckcdaaGreatDoor
open Go.RowKit
set_option linter.unusedVariables false

theorem b_leaf1 (f d : Nat) : (xN (f + 1)).B d leaf1 = ⟨#[49]⟩ := by
  show xInt 1 = _
  unfold xInt
  rw [show ((1 : Int) % 18446744073709551616).toNat = 1 from rfl, Lib.decDigits_one (by decide)]
  rfl
theorem b_leaf2 (f d : Nat) : (xN (f + 1)).B d leaf2 = ⟨#[50]⟩ := by
  show xInt 2 = _
  unfold xInt
  rw [show ((2 : Int) % 18446744073709551616).toNat = 2 from rfl, Lib.decDigits_one (by decide)]
  rfl
theorem b_sum (f d : Nat) : (xN (f + 2)).B d sum12 = ⟨#[49, 32, 43, 32, 50]⟩ := by
  have e : (xN (f + 2)).B d sum12 = (((((xN (f + 1)).B d leaf1 ++ ⟨#[32]⟩) ++ ⟨#[43]⟩) ++ ⟨#[32]⟩) ++ (xN (f + 1)).B d leaf2) := rfl
  rw [e, b_leaf1, b_leaf2]
  rfl
theorem s_print (f d : Nat) : (xN (f + 3)).S d (nd 16 1 [sum12]) = ⟨#[112, 114, 105, 110, 116, 40, 49, 32, 43, 32, 50, 41, 59]⟩ := by
  have e : (xN (f + 3)).S d (nd 16 1 [sum12]) = ((⟨#[112, 114, 105, 110, 116, 40]⟩ ++ (xN (f + 2)).B d sum12) ++ ⟨#[41, 59]⟩) := rfl
  rw [e, b_sum]
  rfl
theorem text12 : xText prog12 = ⟨#[112, 114, 105, 110, 116, 40, 49, 32, 43, 32, 50, 41, 59, 10]⟩ := by
  show xLines (xN (1197 + 3)) 0 [nd 16 1 [sum12]] = _
  unfold xLines xLine
  rw [List.flatMap_cons, s_print]
  rfl
theorem NodeAt.kidsAt {A : Nat → Prop} {w : World} {b : Nat} {t : Tree} (h : NodeAt A w (.pointer (some ⟨b, 0, none⟩)) t) (hp : 0 < t.kids.length) :
    ∃ g cap, w.cell? ⟨b, 5, none⟩ = some (.slice (some ⟨g, 0, none⟩) t.kids.length cap) ∧ ∀ (i : Nat) (hi : i < t.kids.length), ∃ kb, w.cell? ⟨g, i, none⟩ = some (.pointer (some ⟨kb, 0, none⟩)) ∧ NodeAt A w (.pointer (some ⟨kb, 0, none⟩)) t.kids[i] := by
  rw [NodeAt_iff] at h
  obtain ⟨b', ty, ks, vs, h1, h2, h3, h4, h5, h6⟩ := h
  cases h1
  rcases h4.cellAt with ⟨rfl, rfl⟩ | ⟨g, cap, rfl, _, hc⟩
  · simp at h5; omega
  · refine ⟨g, cap, by rw [← h5]; exact hcell h3 5, fun i hi => ?_⟩
    have hk := h6 i hi
    obtain ⟨kb, hkb⟩ : ∃ kb, vs.getD i undef = .pointer (some ⟨kb, 0, none⟩) := by
      have hk2 := hk
      rw [NodeAt_iff] at hk2
      obtain ⟨kb, _, _, _, e, _⟩ := hk2
      exact ⟨kb, e⟩
    rw [hkb] at hk
    exact ⟨kb, by rw [hc i (by omega), hkb], hk⟩
theorem parseT_wx {s : ByteArray} {v : Value} {t : Tree} (h : parseT s v = some t) : Wx t ∧ t.kind = 1 ∧ t.many ≤ 1200 := by
  unfold parseT at h
  split at h
  · cases h
  · rename_i hs
    split at h
    · cases h
    · rename_i x hx
      split at h
      · cases h
      · rename_i hm
        cases h
        have h1 := readP_x (t := x.1) (S := x.2) hx
        have h2 := readP_many (t := x.1) (S := x.2) (by omega) hx
        refine ⟨h1.1, h1.2, ?_⟩
        have hw : wrap64 (x.1.many : Int) = x.1.many := by unfold wrap64; omega
        omega
set_option maxRecDepth 100000 in
set_option maxHeartbeats 4000000 in
theorem written_any {w : World} (tabs : Tabs w w.heap.size) (hg : SG w) :
    Calls Tryz.prog 16 #[] w fun e w' => e = .returned (.bool true) ∧ Add w w' := by
  have HT := hide tabs
  have HG := hide hg
  clear tabs hg
  go_enter Tryz.func16, Tryz.ntmps16
  go_wp2_with fail
  refine (read_any (unhide HT) lit (by decide)).mono ?_
  rintro e w1 ⟨h, ha⟩
  rcases h with ⟨t, b, h1, rfl, h3⟩ | ⟨h1, rfl⟩
  · have hx := parseT_wx h1
    rw [parseT_lit] at h1
    cases h1
    obtain ⟨gl, capl, c5, hk⟩ := h3.kidsAt (by decide)
    obtain ⟨b1, e1, h4⟩ := hk 0 (by decide)
    have d0 : w1.cell? ⟨b1, 0, none⟩ = some (.int .i64 16) := h4.knd
    have ht := text_any ((unhide HG).add ha) (h3.mono fun _ _ => trivial) hx.1 hx.2.1 (by have := hx.2.2; omega)
    rw [text12] at ht
    have HX := hide ht
    have HA := hide ha
    have c5 : w1.cell? ⟨b, 5, none⟩ = some (.slice (some ⟨gl, 0, none⟩) 1 capl) := c5
    clear h3 hx ht ha hk h4
    go_wp2_with fail
    refine (unhide HX).mono ?_
    rintro e w2 ⟨rfl, ha2⟩
    have HA2 := hide ((unhide HA).tr ha2)
    clear ha2
    go_wp2_with fail
    go_ret
    exact ⟨rfl, unhide HA2⟩
  · rw [parseT_lit] at h1
    cases h1
end Go.Proofs.YtndgajlidckcdaaGreatDoor
