/-
  Proved: for every list of bytes, rewindlaw.CodeDecodes answers true; the package-level variables that the road reads start as the program's own text lays them (the card ties them), and the argument reads behind the call as it did.
-/
import Derived.Test.YtkafldkhmkdafaaDoorM30
namespace Go.Proofs.YtkafldkhmkdafaaDoor
open Go.ChangeShapes Go.WideShapes Go.RowKit Go.Deep

theorem cells_u8 : Tryd.prog.cellsOf 5 = 1 := by kernel_rfl
theorem bytes_u8 : Tryd.prog.bytesOf 5 = 1 := by kernel_rfl
/-- A list of bytes that is handed in. -/
theorem bytes_open {H : Type} {enc : TypeId × Value → H} {w : World} {sp : Nat → Bool} {held : Bool} {fuel : Nat} {v : Value} {x : DataW H × List MemPlace}
    (h : DataW.trod enc Tryd.prog w 0 sp held fuel 40 [v] = some x) (hl : Light 40 x.1) : ∃ g l cap, v = .slice g l.length cap ∧ l.length ≤ cap ∧ BytesAt w g l := by
  obtain ⟨n, R, D, ⟨g, cap, rfl, _, hr⟩, hd⟩ := sl_open Tryd.underlying40 cells_u8 (by decide) bytes_u8 h hl
  have hle : n ≤ cap := by
    rcases open_slice Tryd.underlying40 h with ⟨h0, _⟩ | ⟨a, len, cap', m, n', D', Pl, hcs, _, hle, _⟩
    · cases h0
      omega
    · cases hcs
      exact hle
  obtain ⟨l, rfl, hx⟩ := list_of (p := fun i x => R i 0 = .int .u8 x ∧ 0 ≤ x ∧ x < 256) n (fun i hi => by
    obtain ⟨⟨m, y, hm⟩, _⟩ := hd i hi
    obtain ⟨k, e, _, hk⟩ := DataW.trod_int Tryd.underlying5 hm
    simp only [Lit.wf, Bool.and_eq_true, decide_eq_true_eq] at hk
    have hk' : 0 ≤ k ∧ k ≤ 255 := hk
    exact ⟨k, List.head_eq_of_cons_eq e, by omega, by omega⟩)
  refine ⟨g, l, cap, rfl, hle, fun i hi => ?_, fun x hx' => ?_⟩
  · obtain ⟨q, o, e, hc⟩ := hr i hi
    have h0 := hc 0 (by omega)
    have h1 := (hx i _ (List.getElem?_eq_getElem hi)).1
    exact ⟨q, o, e, by simpa [h1, List.getD, hi] using h0⟩
  · obtain ⟨i, hi, rfl⟩ := List.mem_iff_getElem.1 hx'
    exact (hx i _ (List.getElem?_eq_getElem hi)).2
theorem codeDecodes_any {w : World} {g : Option Addr} {l : List Int} (h : BytesAt w g l) (cap : Nat) (hcap : l.length ≤ cap) (hfine : FineAt w) (hT : ErrT w) :
    Calls Tryd.prog 4 #[.slice g l.length cap] w fun e w' => e = .returned (.bool true) ∧ Below w.heap.size w w' := by
  by_cases h1 : l.length ≤ 6000
  · exact decodes_small h cap hcap h1 hfine hT
  by_cases h2 : 100000 < l.length ∧ l.length ≤ 110000
  · exact decodes_great h cap hcap h2.1 h2.2 hT
  · exact (decodes_skip w g l.length cap (by omega)).mono fun e w' ⟨a, b⟩ => ⟨a, b ▸ Below.refl _ _⟩
theorem decodesWorld_met (os : Os) (args : Array Value) : laidMetH Tryd.prog Rows.codeDecodesRow.laid ((laidOf (World.holding Tryd.prog os ⟨#[], #[], []⟩)).forCall (fun _ _ => 0) ⟨#[], args, []⟩).memory :=
  laidWorld_met os args

set_option maxRecDepth 100000 in
set_option maxHeartbeats 1000000 in
theorem decodes_lifted (os : Os) (started : os.Started) (H : Type) (enc : TypeId × Value → H) :
    ReturnsInHanded {} Tryd.checked os 4 .any (fun w args => (Rows.codeDecodesSpec.pre enc Tryd.prog Tryd.f4 [] false w args ∧ laidMetH Tryd.prog Rows.codeDecodesRow.laid w) ∧ sizedMet enc Tryd.prog Tryd.f4 (OpenSpec.ofChange Rows.codeDecodesSpec) false w args)
      (Rows.codeDecodesSpec.post enc Tryd.prog Tryd.f4 false true false false) := by
  refine returnsInHanded_of_change_and (C := Tryd.checked) (X := fun w _ => laidMetH Tryd.prog Rows.codeDecodesRow.laid w) (fun _ _ _ hh h => h.of_heap hh) own started (by kernel_rfl) Tryd.func4
    (ChangeSpec.witness_at (enc := enc) (C := Tryd.checked) (os := os) (X := fun w _ => laidMetH Tryd.prog Rows.codeDecodesRow.laid w) false (laidOf (World.holding Tryd.prog os ⟨#[], #[], []⟩)) #[.slice none 0 0] 8 rfl (by kernel_rfl) (by kernel_rfl) (by kernel_rfl) (by kernel_rfl) (by kernel_rfl) (decodesWorld_met os _)) ?_
  intro W base args ds gs before hval0 hW _ hwt hL _
  have hval : ∀ (j : Nat) t v, Tryd.f4.params[j]? = some t → args[j]? = some v → Value.okWide Tryd.prog W .any base t v := hval0
  have hW' := hW
  obtain ⟨p, q, hA0, hV, rfl, hfz, hnd⟩ := hW
  have hA : DataW.TrodAll enc Tryd.prog W 0 (fun _ => true) true Tryd.f4.params.toList args.toList ds p := hA0
  have hAk := hA
  obtain ⟨rfl, rfl⟩ := trodVars_none hV
  rw [Tryd.params4] at hA hval
  obtain ⟨v0, d0, rfl, rfl, h0⟩ := trodAll_one hA
  obtain ⟨a0, n0, c0, rfl⟩ := okWide_slice Tryd.underlying40 (hval 0 40 v0 rfl rfl)
  obtain ⟨fuel, h0⟩ := h0
  have hl : Light 40 d0 := fun n hn => by
    have := List.all_eq_true.1 hwt n (DataW.weights_mem_each (j := 0) (by rw [Tryd.params4]; rfl) rfl n hn)
    have : n ≤ reachBytes := by simpa using this
    unfold reachBytes at this
    omega
  obtain ⟨g, l, cap, he0, hcap, hm⟩ := bytes_open (x := (d0, p)) h0 hl
  cases he0
  obtain ⟨hfine, herr⟩ := of_laid (show laidMetH Tryd.prog Rows.codeChecksRow.laid W from hL)
  simp only [List.append_nil] at hW'
  refine (codeDecodes_any hm _ hcap hfine herr).mono fun e W' ⟨he, hb⟩ => ?_
  subst he
  exact ⟨_, rfl, post_of_below hW' (fun _ _ _ => trodAll_mk1 (shut_bool Tryd.underlying4 _)) (fun sp hsp => trodAll_up hb (DataW.TrodAll.respare kids full (by rw [Tryd.params4]; decide +kernel) hAk hsp)) (fun _ => rfl) hb
    (ok_one (by kernel_rfl) rfl (okWide_bool_mk Tryd.underlying4 _))⟩

theorem codeDecodes_holds : Rows.CodeDecodesSaid :=
  OpenClaim.holds_of_wide 4 Tryd.f4 rfl rfl rfl rfl rfl rfl rfl ⟨rfl, rfl, rfl, rfl, rfl⟩ rfl rfl rfl rfl rfl (by kernel_rfl) Tryd.func4 (by kernel_rfl)
    (of_decide_eq_true (by kernel_rfl)) (by unfold Func.isWrapper; first | (rw [if_pos (by decide +kernel)]; kernel_rfl) | (rw [if_neg (by decide +kernel)]; exact ⟨rfl, rfl⟩))
    (fun os started H enc _ => decodes_lifted os started H enc)

theorem decodes_plain (f : FuncId) (fn : Func) (hf : Tryd.pinned.checked.prog.funcNamed "rewind/rewindlaw.CodeDecodes" = some f) (hfn : Tryd.pinned.checked.prog.funcs[f]? = some fn) :
    true = Tryd.pinned.checked.prog.looks [] ∧ ∀ (j : Nat) t, fn.params[j]? = some t → Tryd.pinned.checked.prog.wantsStandIn t = false := by
  obtain rfl : f = 4 := Option.some.inj ((show Tryd.prog.funcNamed "rewind/rewindlaw.CodeDecodes" = some 4 by kernel_rfl).symm.trans hf) |>.symm
  obtain rfl : fn = Tryd.f4 := (Option.some.inj (Tryd.func4.symm.trans hfn)).symm
  refine ⟨by kernel_rfl, fun j t ht => ?_⟩
  rw [Tryd.params4] at ht
  have hm : t = 40 := by simpa using Array.mem_of_getElem? ht
  subst hm
  exact (show Tryd.prog.wantsStandIn 40 = false by kernel_rfl)

theorem decodes_card_holds : Rows.CodeDecodesCardSaid :=
  Claim7.holds_tied_plain_at .later [] _ _ _ _ codeDecodes_holds (fun _ h => by cases h) (by kernel_rfl) (fun _ h => by cases h) codeDecodes_row_tie rfl ⟨rfl, rfl⟩ (by kernel_rfl) rfl decodes_plain (by kernel_rfl)
#print axioms decodes_card_holds
end Go.Proofs.YtkafldkhmkdafaaDoor
