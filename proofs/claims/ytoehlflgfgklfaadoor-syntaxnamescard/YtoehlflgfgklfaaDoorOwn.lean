/-
  Proved: for every text, rewindlaw.SyntaxNames answers true: which texts may be names by package syntax is what the document says (1.1); the lists of words of both sides are tied to the program's own text (the card), and the text reads behind the call as it did.
-/
import Derived.Test.YtoehlflgfgklfaaDoorCards
import Derived.Test.YtoehlflgfgklfaaDoorTie
import Derived.Test.YtoehlflgfgklfaaDoorNames
import Derived.ProofKit
import Derived.LaidMore
import Derived.OpenShut
import Derived.Stop.Joined
import Derived.SevenTiedAt
namespace Go.Proofs.YtoehlflgfgklfaaDoor
open Go.ChangeShapes Go.WideShapes Go.ChangeAt Go.WideMaps Go.WideElems Go.RowKit
open Go.ChangeMaps (open_string shut_string)

theorem own : ownKnob Tryd.prog.godebug = none := by kernel_rfl
theorem gRef : Tryd.prog.globalNamed "rewind/rewindref.words" = some 0 := by kernel_rfl
theorem gSyn : Tryd.prog.globalNamed "rewind/syntax.words" = some 1 := by kernel_rfl
theorem tRef : (Tryd.prog.globals[0]?).map (·.type) = some 25 := by kernel_rfl
theorem tSyn : (Tryd.prog.globals[1]?).map (·.type) = some 26 := by kernel_rfl
theorem cells26 : Tryd.prog.cellsOf 26 = 20 := by kernel_rfl

/-- The words, as bytes. -/
def wordBytes : List (List UInt8) := [[99, 108, 97, 115, 115], [102, 105, 101, 108, 100], [102, 110], [118, 97, 114], [105, 102], [101, 108, 115, 101], [119, 104, 105, 108, 101], [114, 101, 116, 117, 114, 110], [116, 104, 114, 111, 119], [116, 114, 121], [99, 97, 116, 99, 104], [112, 114, 105, 110, 116], [116, 114, 117, 101], [102, 97, 108, 115, 101], [110, 105, 108], [116, 104, 105, 115], [110, 101, 119], [115, 117, 112, 101, 114], [105, 110, 112, 117, 116], [108, 101, 110]]
def wordTexts : List ByteArray := wordBytes.map fun l => ⟨l.toArray⟩

/-- The bytes of a datum that is a string. -/
def strOfD {H : Type} : DataW H → List UInt8
  | .lit (.string l) => l
  | _ => []

theorem refD {H : Type} : (Rows.laid_rewind_rewindref_words : DataW H) = .slice (wordBytes.map fun l => .lit (.string l)) [] := rfl
theorem synD {H : Type} : (Rows.laid_rewind_syntax_words : DataW H) = .agg (wordBytes.map fun l => .lit (.string l)) := rfl

theorem texts_of {ss : List ByteArray} (h : ss.map (fun s => s.data.toList) = wordBytes) : ss = wordTexts := by
  unfold wordTexts
  rw [← h, List.map_map]
  simp [Function.comp_def]

/-- What the two lists' conditions give the walks. -/
theorem of_laid {W : World} (h : laidMetH Tryd.prog Rows.syntaxNamesRow.laid W) :
    (∃ tt fr, W.heap[1]? = some (.cells (wordTexts.map Value.string).toArray tt fr)) ∧
    ∃ b off cap, W.cell? ⟨0, 0, none⟩ = some (.slice (some ⟨b, off, none⟩) 20 cap) ∧ ∀ k, k < 20 → W.cell? ⟨b, off + k, none⟩ = some (.string (wordTexts[k]?.getD ByteArray.empty)) := by
  rw [MakeChecks.laidMetH_plain _ _ _ (by kernel_rfl)] at h
  obtain ⟨ps, ⟨g0, t0, cs0, f0, p0, q0, hg0, ht0, hv0, hd0, ⟨g1, t1, cs1, f1, p1, q1, hg1, ht1, hv1, hd1, _, _⟩, _⟩, _, _⟩ := h
  obtain rfl := Option.some.inj (gRef.symm.trans hg0)
  obtain rfl := Option.some.inj (gSyn.symm.trans hg1)
  obtain rfl := Option.some.inj (tRef.symm.trans ht0)
  obtain rfl := Option.some.inj (tSyn.symm.trans ht1)
  constructor
  · rw [synD] at hd1
    obtain ⟨xs, m1, rfl, hx1, hlen, hn, hel⟩ := DataW.trod_array Tryd.underlying26 hd1
    simp only [Prod.mk.injEq, DataW.agg.injEq] at hx1
    rw [cells26] at hlen
    have hcs : cs1.toList = wordTexts.map Value.string := by
      apply List.ext_getElem (by simp [hlen, wordTexts, wordBytes])
      intro i h1 h2
      have hi : i < 20 := by simpa [hlen] using h1
      have hi2 : i < xs.length := by omega
      have he := hel i hi
      rw [cells9, List.getElem?_eq_getElem hi2] at he
      obtain ⟨s, e1, e2, _⟩ := DataW.trod_string Tryd.underlying9 he
      have hci : cs1.toList[i] = .string s := by
        have := congrArg (·[0]?) e1
        simp only [Nat.mul_one, List.getElem?_take, List.getElem?_drop] at this
        simpa [List.getElem?_eq_getElem h1] using this
      have hxi : (xs.map (·.1))[i]? = some (.lit (.string s.data.toList)) := by
        rw [List.getElem?_map, List.getElem?_eq_getElem hi2, e2]; rfl
      rw [← hx1.1, List.getElem?_map] at hxi
      have hwl : i < wordBytes.length := hi
      rw [List.getElem?_eq_getElem hwl] at hxi
      simp only [Option.map_some, Option.some.injEq, DataW.lit.injEq, Lit.string.injEq] at hxi
      rw [hci]
      simp [wordTexts, hxi]
    simp only [World.var?, hg1, Option.bind_some] at hv1
    split at hv1
    · rename_i cs tt fr hh
      cases hv1
      refine ⟨tt, fr, ?_⟩
      rw [hh]
      have : cs1 = (wordTexts.map Value.string).toArray := by rw [← hcs]
      rw [this]
    · cases hv1
  · rw [refD] at hd0
    rcases open_strings Tryd.underlying25 Tryd.underlying9 cells9 hd0 with ⟨_, hx⟩ | ⟨a, len, cap, ss, hcs, _, hl, hm, hz, hx, hcell, hws⟩
    · simp at hx
    simp only [Prod.mk.injEq, DataW.slice.injEq] at hx
    have hz' : ss.length = cap := by simpa using hz
    have ht : (ss.take len).map (fun s => s.data.toList) = wordBytes := by
      have := congrArg (List.map strOfD) hx.1.1
      simpa [strs, strOfD, Function.comp_def] using this.symm
    have htx := texts_of ht
    have hln : len = 20 := by
      have := congrArg List.length ht
      rw [List.length_map, List.length_take] at this
      have hw : wordBytes.length = 20 := rfl
      omega
    subst hln
    have hat : ∀ k, k < 20 → ss.getD k ByteArray.empty = wordTexts[k]?.getD ByteArray.empty := by
      intro k hk
      rw [← htx, List.getElem?_take, if_pos hk, List.getD_eq_getElem?_getD]
    obtain ⟨b, off, spot⟩ := a
    have hspot : spot = none := by simpa [Addr.add] using World.cell?_spot (hcell 0 (by omega))
    subst hspot
    refine ⟨b, off, cap, ?_, fun k hk => ?_⟩
    · have := World.var?_cell hg0 hv0 0
      rw [Array.eq_one_of_toList hcs] at this
      simpa using this
    · rw [← hat k hk, ← Go.WideShapes.add_plain]
      exact hcell k (by omega)

/-- The door's own heap meets the condition. -/
theorem door_met (os : Os) (args : Array Value) : laidMetH Tryd.prog Rows.syntaxNamesRow.laid ((World.doorLaid Tryd.prog 40 os).forCall (fun _ _ => 0) ⟨#[], args, []⟩).memory :=
  laidMetH_of_parts3 (fuel := 8) (laidMet_of_run' 8 (by kernel_rfl) (by kernel_rfl)) (by kernel_rfl) (by kernel_rfl)

set_option maxRecDepth 100000 in
theorem lifted (os : Os) (started : os.Started) (H : Type) (enc : TypeId × Value → H) :
    ReturnsInHanded {} Tryd.checked os 3 .any (fun w args => (Rows.syntaxNamesSpec.pre enc Tryd.prog Tryd.f3 [] false w args ∧ laidMetH Tryd.prog Rows.syntaxNamesRow.laid w) ∧ sizedMet enc Tryd.prog Tryd.f3 (OpenSpec.ofChange Rows.syntaxNamesSpec) false w args)
      (Rows.syntaxNamesSpec.post enc Tryd.prog Tryd.f3 false true false false) := by
  refine returnsInHanded_of_change_and (C := Tryd.checked) (X := fun w _ => laidMetH Tryd.prog Rows.syntaxNamesRow.laid w) (fun _ _ _ hh h => h.of_heap hh) own started (by kernel_rfl) Tryd.func3
    (ChangeSpec.witness_shaped (enc := enc) (C := Tryd.checked) (os := os) (X := fun w _ => laidMetH Tryd.prog Rows.syntaxNamesRow.laid w) false (World.doorLaid Tryd.prog 40 os) #[.string ByteArray.empty] 8 rfl (World.shaped_of_RefB (by kernel_rfl) (by kernel_rfl)) (by kernel_rfl) (by kernel_rfl) (by kernel_rfl) (door_met os _)) ?_
  intro W base args ds gs before hval0 hW _ _ hL _
  have hval : ∀ (j : Nat) t v, Tryd.f3.params[j]? = some t → args[j]? = some v → Value.okWide Tryd.prog W .any base t v := hval0
  have hW' := hW
  obtain ⟨p, q, hA0, hV, rfl, hfz, hnd⟩ := hW
  have hA : DataW.TrodAll enc Tryd.prog W 0 (fun _ => true) true Tryd.f3.params.toList args.toList ds p := hA0
  rw [Tryd.params3] at hA hval
  obtain ⟨v0, d0, rfl, rfl, h0⟩ := trodAll_one hA
  obtain ⟨rfl, rfl⟩ := trodVars_none hV
  obtain ⟨s, rfl, rfl, rfl, hs⟩ := open_string Tryd.underlying9 (hval 0 9 v0 rfl rfl) h0
  obtain ⟨⟨tt, fr, hg⟩, b, off, cap, hc0, hcs⟩ := of_laid hL
  clear hA0 hval0
  simp only [List.append_nil] at hW'
  refine (law3 wordTexts rfl s W tt fr hg b off cap hc0 hcs).mono fun e W' ⟨he, hw⟩ => ?_
  subst he; subst hw
  exact ⟨_, rfl, post_of_same (pa := []) (pv := []) hW' (fun _ _ _ => trodAll_mk1 (shut_bool Tryd.underlying4 _)) (fun sp _ => trodAll_mk1 (shut_string Tryd.underlying9 hs)) (fun _ _ => rfl) rfl (World.keptBut_refl _ _) (fun _ => rfl)
    (ok_one (by kernel_rfl) rfl (okWide_bool_mk Tryd.underlying4 _))⟩

theorem syntaxNames_holds : Rows.SyntaxNamesSaid :=
  OpenClaim.holds_of_wide 3 Tryd.f3 rfl rfl rfl rfl rfl rfl rfl ⟨rfl, rfl, rfl, rfl, rfl⟩ rfl rfl rfl rfl rfl (by kernel_rfl) Tryd.func3 (by kernel_rfl)
    (of_decide_eq_true (by kernel_rfl)) (by unfold Func.isWrapper; first | (rw [if_pos (by decide +kernel)]; kernel_rfl) | (rw [if_neg (by decide +kernel)]; exact ⟨rfl, rfl⟩))
    (fun os started H enc _ => lifted os started H enc)

theorem plain (f : FuncId) (fn : Func) (hf : Tryd.pinned.checked.prog.funcNamed "rewind/rewindlaw.SyntaxNames" = some f) (hfn : Tryd.pinned.checked.prog.funcs[f]? = some fn) :
    false = Tryd.pinned.checked.prog.looks [] ∧ ∀ (j : Nat) t, fn.params[j]? = some t → Tryd.pinned.checked.prog.wantsStandIn t = false := by
  obtain rfl : f = 3 := Option.some.inj ((show Tryd.prog.funcNamed "rewind/rewindlaw.SyntaxNames" = some 3 by kernel_rfl).symm.trans hf) |>.symm
  obtain rfl : fn = Tryd.f3 := (Option.some.inj (Tryd.func3.symm.trans hfn)).symm
  refine ⟨by kernel_rfl, fun j t ht => ?_⟩
  rw [Tryd.params3] at ht
  obtain rfl : t = 9 := by simpa using Array.mem_of_getElem? ht
  exact (show Tryd.prog.wantsStandIn 9 = false by kernel_rfl)

theorem card_holds : Rows.SyntaxNamesCardSaid :=
  Claim7.holds_tied_plain_at .later [] _ _ _ _ syntaxNames_holds (fun _ h => by cases h) (by kernel_rfl) (fun _ h => by cases h) syntaxNames_row_tie rfl ⟨rfl, rfl⟩ (by kernel_rfl) rfl plain (by kernel_rfl)
#print axioms card_holds
end Go.Proofs.YtoehlflgfgklfaaDoor
