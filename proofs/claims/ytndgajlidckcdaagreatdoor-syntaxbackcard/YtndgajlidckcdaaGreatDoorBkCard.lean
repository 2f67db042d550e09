/-
  Proved: for every text, rewindkeep.SyntaxBack answers true: what a program's text tells is that program again, but for its lines, and is so written again; the package-level variables that the road reads start as the program's own text lays them (the card ties them), and the argument reads behind the call as it did.
-/
import Derived.Test.YtndgajlidckcdaaGreatDoorB32
import Derived.Test.YtndgajlidckcdaaGreatDoorCards
import Derived.Test.YtndgajlidckcdaaGreatDoorTie
import Derived.ProofKit
import Derived.LaidMore
import Derived.Lay
import Derived.LaidLaws
import Derived.LaidHandle
import Derived.Lib.LaidTab
import Derived.OpenShut
import Derived.Stop.Joined
import Derived.SevenTiedAt
namespace Go.Proofs.YtndgajlidckcdaaGreatDoor
open Go.ChangeShapes Go.WideShapes Go.ChangeAt Go.WideMaps Go.WideElems Go.RowKit
open Go.ChangeMaps (open_string shut_string)

theorem own : ownKnob Tryz.prog.godebug = none := by kernel_rfl
theorem gRange : Tryz.prog.globalNamed "strconv.ErrRange" = some 7 := by kernel_rfl
theorem gWords : Tryz.prog.globalNamed "rewind/syntax.words" = some 9 := by kernel_rfl
theorem gTwins : Tryz.prog.globalNamed "rewind/syntax.twinSigns" = some 10 := by kernel_rfl
theorem gSigns : Tryz.prog.globalNamed "rewind/syntax.signs" = some 5 := by kernel_rfl
theorem tRange : (Tryz.prog.globals[7]?).map (·.type) = some 29 := by kernel_rfl
theorem tWords : (Tryz.prog.globals[9]?).map (·.type) = some 241 := by kernel_rfl
theorem tTwins : (Tryz.prog.globals[10]?).map (·.type) = some 242 := by kernel_rfl
theorem tSigns : (Tryz.prog.globals[5]?).map (·.type) = some 225 := by kernel_rfl
theorem cells9 : Tryz.prog.cellsOf 9 = 1 := by kernel_rfl
theorem cells3 : Tryz.prog.cellsOf 3 = 1 := by kernel_rfl
theorem cellsSign : Tryz.prog.cellsOf 224 = 3 := by kernel_rfl
theorem cellsW : Tryz.prog.cellsOf 241 = 20 := by kernel_rfl
theorem cellsT : Tryz.prog.cellsOf 242 = 3 := by kernel_rfl
theorem cellsS : Tryz.prog.cellsOf 225 = 27 := by kernel_rfl

def twinBytes : List (List UInt8) := [[124, 124], [38, 38], [61, 61]]
theorem wordsD {H : Type} : (Rows.laid_rewind_syntax_words : DataW H) = .agg (wordBytes.map fun l => .lit (.string l)) := rfl
theorem twinsD {H : Type} : (Rows.laid_rewind_syntax_twinSigns : DataW H) = .agg (twinBytes.map fun l => .lit (.string l)) := rfl
def signD {H : Type} (s : ByteArray × Nat × Nat) : DataW H := .agg [.lit (.string s.1.data.toList), .lit (.int .i64 s.2.1), .lit (.int .i64 s.2.2)]
theorem signsD {H : Type} : (Rows.laid_rewind_syntax_signs : DataW H) = .agg (signRows.map signD) := rfl

/-- An array of texts, from its datum. -/
theorem texts_of {H : Type} {enc : TypeId × Value → H} {w : World} {base : Nat} {sp : Nat → Bool} {held : Bool} {fuel n : Nat} {t : TypeId} {cs : List Value} {p : List MemPlace} {bytes : List (List UInt8)}
    (ht : Tryz.prog.underlying t = some (.array n 9)) (hc : Tryz.prog.cellsOf t = n) (hb : bytes.length = n) (h : DataW.trod enc Tryz.prog w base sp held fuel t cs = some (.agg (bytes.map fun l => .lit (.string l)), p)) :
    cs = bytes.map fun l => Value.string ⟨l.toArray⟩ := by
  obtain ⟨xs, m1, rfl, hx1, hlen, hn, hel⟩ := DataW.trod_array ht h
  simp only [Prod.mk.injEq, DataW.agg.injEq] at hx1
  rw [hc] at hlen
  apply List.ext_getElem (by simp [hlen, hb])
  intro i h1 h2
  have hi : i < n := by omega
  have hi2 : i < xs.length := by omega
  have he := hel i hi
  rw [cells9, List.getElem?_eq_getElem hi2] at he
  obtain ⟨s, e1, e2, _⟩ := DataW.trod_string Tryz.underlying9 he
  have hci : cs[i] = .string s := by
    have := congrArg (·[0]?) e1
    simp only [Nat.mul_one, List.getElem?_take, List.getElem?_drop] at this
    simpa [List.getElem?_eq_getElem h1] using this
  have hxi : (xs.map (·.1))[i]? = some (.lit (.string s.data.toList)) := by
    rw [List.getElem?_map, List.getElem?_eq_getElem hi2, e2]; rfl
  rw [← hx1.1, List.getElem?_map] at hxi
  have hwl : i < bytes.length := by omega
  rw [List.getElem?_eq_getElem hwl] at hxi
  simp only [Option.map_some, Option.some.injEq, DataW.lit.injEq, Lit.string.injEq] at hxi
  rw [hci, List.getElem_map, hxi]

theorem thirds : ∀ (m : Nat) (l : List Value), l.length = 3 * m → (List.range m).flatMap (fun i => (l.drop (i * 3)).take 3) = l
  | 0, l, h => by
    have : l = [] := List.eq_nil_of_length_eq_zero (by omega)
    simp [this]
  | m + 1, l, h => by
    have ih := thirds m (l.drop 3) (by simp; omega)
    rw [List.range_succ_eq_map, List.flatMap_cons, List.flatMap_map]
    have e : (fun i => (l.drop ((i + 1) * 3)).take 3) = fun i => ((l.drop 3).drop (i * 3)).take 3 := by
      funext i
      rw [List.drop_drop]
      congr 2
      omega
    show (l.drop (0 * 3)).take 3 ++ (List.range m).flatMap (fun i => (l.drop ((i + 1) * 3)).take 3) = l
    rw [e, ih]
    simp

set_option maxRecDepth 100000 in
/-- The table of signs, from its datum. -/
theorem signs_of {H : Type} {enc : TypeId × Value → H} {w : World} {base : Nat} {sp : Nat → Bool} {held : Bool} {fuel : Nat} {cs : List Value} {p : List MemPlace}
    (h : DataW.trod enc Tryz.prog w base sp held fuel 225 cs = some (.agg (signRows.map signD), p)) : cs = signCells.toList := by
  obtain ⟨xs, m1, rfl, hx1, hlen, hn, hel⟩ := DataW.trod_array Tryz.underlying225 h
  simp only [Prod.mk.injEq, DataW.agg.injEq] at hx1
  rw [cellsS] at hlen
  have row : ∀ i, i < 9 → (cs.drop (i * 3)).take 3 = [.string (sgn i).1, .int .i64 (sgn i).2.1, .int .i64 (sgn i).2.2] := by
    intro i hi
    have hi2 : i < xs.length := by omega
    have he := hel i hi
    rw [cellsSign, List.getElem?_eq_getElem hi2] at he
    generalize (cs.drop (i * 3)).take 3 = sl at he ⊢
    obtain ⟨ys, n, rfl, hy, hl, hyl, hf⟩ := DataW.trod_struct Tryz.underlying224 he
    rw [cellsSign] at hl
    match ys, hyl with
    | [y0, y1, y2], _ =>
      have f0 : DataW.trod enc Tryz.prog w base sp held n 9 ((sl.drop 0).take (Tryz.prog.cellsOf 9)) = some y0 := hf 0 _ rfl
      have f1 : DataW.trod enc Tryz.prog w base sp held n 3 ((sl.drop 1).take (Tryz.prog.cellsOf 3)) = some y1 := hf 1 _ rfl
      have f2 : DataW.trod enc Tryz.prog w base sp held n 3 ((sl.drop 2).take (Tryz.prog.cellsOf 3)) = some y2 := hf 2 _ rfl
      rw [cells9] at f0
      rw [cells3] at f1 f2
      obtain ⟨z, e1, e2, _⟩ := DataW.trod_string Tryz.underlying9 f0
      obtain ⟨n1, e3, e4, _⟩ := DataW.trod_int Tryz.underlying3 f1
      obtain ⟨n2, e5, e6, _⟩ := DataW.trod_int Tryz.underlying3 f2
      match sl, hl with
      | [a, b, c], _ =>
        simp only [List.drop_zero, List.take_succ_cons, List.take_zero, List.drop_succ_cons, List.cons.injEq, and_true] at e1 e3 e5
        subst e1 e3 e5
        have hxi : (xs.map (·.1))[i]? = some (.agg [.lit (.string z.data.toList), .lit (.int .i64 n1), .lit (.int .i64 n2)]) := by
          rw [List.getElem?_map, List.getElem?_eq_getElem hi2, hy]
          simp [e2, e4, e6]
        rw [← hx1.1, List.getElem?_map, List.getElem?_eq_getElem (show i < signRows.length from hi), sgn_get (show i < signRows.length from hi)] at hxi
        simp only [Option.map_some, Option.some.injEq, signD, DataW.agg.injEq, List.cons.injEq, DataW.lit.injEq, Lit.string.injEq, Lit.int.injEq, true_and, and_true] at hxi
        obtain ⟨q1, q2, q3⟩ := hxi
        have q0 : z = (sgn i).1 := by
          apply ByteArray.ext
          exact Array.toList_inj.1 q1.symm
        rw [q0, ← q2, ← q3]
  have e := thirds 9 cs (by omega)
  rw [← e]
  have e2 : (List.range 9).flatMap (fun i => (cs.drop (i * 3)).take 3) = (List.range 9).flatMap (fun i => [.string (sgn i).1, .int .i64 (sgn i).2.1, .int .i64 (sgn i).2.2]) := by
    rw [List.flatMap_def, List.flatMap_def]
    congr 1
    apply List.map_congr_left
    intro i hi
    exact row i (by simpa using hi)
  rw [e2]
  rfl

theorem gErr : Tryz.prog.globalNamed "errors.errorType" = some 2 := by kernel_rfl
theorem rtypeRow : (Tryz.prog.cutTypes.find? (·.1 == "internal/reflectlite.rtype")).map (·.2) = some 190 := by kernel_rfl
theorem oneRow : ((List.range Tryz.prog.types.size).filter fun t => Tryz.prog.rowNamed t [101, 114, 114, 111, 114]) = [29] := by kernel_rfl
theorem errHandle : typeHandle Tryz.prog 29 = .pointer (some ⟨16, 29, none⟩) := by kernel_rfl

/-- The listed variables but for the handle. -/
def plain8 : List (String × DataW Unit) := [("math/bits.deBruijn32tab", Rows.laid_math_bits_deBruijn32tab), ("math/bits.deBruijn64tab", Rows.laid_math_bits_deBruijn64tab), ("internal/strconv.uint64pow10", Rows.laid_internal_strconv_uint64pow10), ("strconv.ErrRange", Rows.laid_strconv_ErrRange), ("strconv.ErrSyntax", Rows.laid_strconv_ErrSyntax), ("rewind/syntax.words", Rows.laid_rewind_syntax_words), ("rewind/syntax.twinSigns", Rows.laid_rewind_syntax_twinSigns), ("rewind/syntax.signs", Rows.laid_rewind_syntax_signs)]
/-- What the variables' conditions give the walks. -/
theorem gpow : Tryz.prog.globalNamed "internal/strconv.uint64pow10" = some 11 := by kernel_rfl
theorem tpow : (Tryz.prog.globals[11]?).map (·.type) = some 262 := by kernel_rfl
theorem powD {H : Type} : (Rows.laid_internal_strconv_uint64pow10 : DataW H) = Lib.tabData .u64 Lib.pow10Tab := rfl
theorem tabs_laid {W : World} (h : laidMet Tryz.prog plain8 W) : Tabs W W.heap.size ∧ SG W := by
  unfold plain8 at h
  obtain ⟨ps, ⟨_, _, _, _, _, _, _, _, _, _, ⟨_, _, _, _, _, _, _, _, _, _, ⟨g2, t2, cs2, f2, p2, q2, hg2, ht2, hv2, hd2, ⟨g3, t3, cs3, f3, p3, q3, hg3, ht3, hv3, hd3, ⟨_, _, _, _, _, _, _, _, _, _, ⟨g5, t5, cs5, f5, p5, q5, hg5, ht5, hv5, hd5, ⟨g6, t6, cs6, f6, p6, q6, hg6, ht6, hv6, hd6, ⟨g7, t7, cs7, f7, p7, q7, hg7, ht7, hv7, hd7, _, _⟩, _⟩, _⟩, _⟩, _⟩, _⟩, _⟩, _⟩, _, _⟩ := h
  obtain rfl := Option.some.inj (gRange.symm.trans hg3)
  obtain rfl := Option.some.inj (gWords.symm.trans hg5)
  obtain rfl := Option.some.inj (gTwins.symm.trans hg6)
  obtain rfl := Option.some.inj (gSigns.symm.trans hg7)
  obtain rfl := Option.some.inj (tRange.symm.trans ht3)
  obtain rfl := Option.some.inj (tWords.symm.trans ht5)
  obtain rfl := Option.some.inj (tTwins.symm.trans ht6)
  obtain rfl := Option.some.inj (tSigns.symm.trans ht7)
  obtain rfl := Option.some.inj (gpow.symm.trans hg2)
  obtain rfl := Option.some.inj (tpow.symm.trans ht2)
  rw [powD] at hd2
  have e2 := Lib.cells_of_tab Tryz.underlying262 Tryz.underlying110 (by kernel_rfl) (by kernel_rfl) hd2
  have htab : Lib.TabIs Tryz.prog W "internal/strconv.uint64pow10" .u64 Lib.pow10Tab := by
    unfold Lib.TabIs
    rw [hv2, ← e2]
  rw [wordsD] at hd5
  rw [twinsD] at hd6
  rw [signsD] at hd7
  have e5 := texts_of Tryz.underlying241 cellsW rfl hd5
  have e6 := texts_of Tryz.underlying242 cellsT rfl hd6
  have e7 := signs_of hd7
  obtain ⟨_, te, pe, e3, _, _⟩ := iface_of_trod Tryz.underlying29 hd3
  have b5 : ∃ tt fr, W.heap[9]? = some (.cells wordCells tt fr) := by
    simp only [World.var?, hg5, Option.bind_some] at hv5
    split at hv5
    · rename_i cs tt fr hh
      cases hv5
      refine ⟨tt, fr, ?_⟩
      rw [hh]
      have : cs5 = wordCells := Array.toList_inj.1 (by rw [e5]; rfl)
      rw [this]
    · cases hv5
  have b6 : ∃ tt fr, W.heap[10]? = some (.cells twinCells tt fr) := by
    simp only [World.var?, hg6, Option.bind_some] at hv6
    split at hv6
    · rename_i cs tt fr hh
      cases hv6
      refine ⟨tt, fr, ?_⟩
      rw [hh]
      have : cs6 = twinCells := Array.toList_inj.1 (by rw [e6]; rfl)
      rw [this]
    · cases hv6
  have b7 : ∃ tt fr, W.heap[5]? = some (.cells signCells tt fr) := by
    simp only [World.var?, hg7, Option.bind_some] at hv7
    split at hv7
    · rename_i cs tt fr hh
      cases hv7
      refine ⟨tt, fr, ?_⟩
      rw [hh]
      have : cs7 = signCells := Array.toList_inj.1 e7
      rw [this]
    · cases hv7
  have b3 : W.cell? ⟨7, 0, none⟩ = some (.iface te pe) := by
    have := World.var?_cell hg3 hv3 0
    rw [Array.eq_one_of_toList e3] at this
    simpa using this
  have far : 10 < W.heap.size := by
    obtain ⟨_, _, h5⟩ := b5
    obtain ⟨_, _, h6⟩ := b6
    obtain ⟨_, _, h7⟩ := b7
    have q5 := (Array.getElem?_eq_some_iff.1 h5).1
    have q6 := (Array.getElem?_eq_some_iff.1 h6).1
    have q7 := (Array.getElem?_eq_some_iff.1 h7).1
    have q3 : 7 < W.heap.size := cell_lt b3
    omega
  exact ⟨⟨b5, b6, b7, ⟨te, pe, b3⟩, far⟩, b7, htab⟩

theorem err_laid {W : World} (h' : handlesMet Tryz.prog [("errors.errorType", Rows.laid_errors_errorType)] W) : ErrT W := by
  obtain ⟨name, u, ty, e1, e2, e3, e4, e5⟩ := h' _ (List.mem_singleton.2 rfl)
  have en : name = [101, 114, 114, 111, 114] := (Option.some.inj e1).symm
  subst en
  obtain rfl := Option.some.inj (rtypeRow.symm.trans e2)
  have hm : ty ∈ (List.range Tryz.prog.types.size).filter fun t => Tryz.prog.rowNamed t [101, 114, 114, 111, 114] := List.mem_filter.2 ⟨List.mem_range.2 e3, e4⟩
  rw [oneRow] at hm
  obtain rfl := List.mem_singleton.1 hm
  rw [errHandle] at e5
  have := World.var?_cell gErr e5 0
  simpa [ErrT, errT] using this
theorem of_laid {W : World} (h : laidMetH Tryz.prog Rows.syntaxBackRow.laid W) : PB W := by
  have h' : laidMet Tryz.prog plain8 W ∧ handlesMet Tryz.prog [("errors.errorType", Rows.laid_errors_errorType)] W := h
  exact ⟨(tabs_laid h'.1).1, (tabs_laid h'.1).2, err_laid h'.2⟩
theorem below_add {w w' : World} (h : Below w.heap.size w w') : Add w w' := ⟨h.os, h.tape, h.output, h.size, fun k hk => h.block k hk⟩
theorem kept_of_add {w w' : World} (h : Add w w') (may : MemPlace → Prop) : w.keptBut w' may := by
  refine ⟨h.os, h.output, fun i hi => ?_⟩
  rw [h.block i hi]
  exact (World.keptBut_refl w may).2.2 i hi

theorem post_of_add {H : Type} {enc : TypeId × Value → H} {P : Program} {f : Func} {s : ChangeSpec} {apart fresh handsOn again : Bool} {W W' : World} {args : Array Value} {v : Value} {ds gs : List (DataW H)}
    (hW : DataW.Whole enc P f.params.toList s.vars apart W args.toList ds gs [])
    (hres : ∀ (b : Nat) (sp : Nat → Bool) (hd : Bool), DataW.TrodAll enc P W' b sp hd f.resultTypes.toList (v.resultList f.resultTypes.size) (s.fn H (ds ++ gs)).results [])
    (hargs : ∀ sp : Nat → Bool, DataW.TrodAll enc P W' 0 sp true f.params.toList args.toList (s.fn H (ds ++ gs)).args [])
    (hvars : ∀ sp : Nat → Bool, DataW.TrodVars enc P W' sp s.vars (s.fn H (ds ++ gs)).vars [])
    (ha : Add W W')
    (hok : ∀ (j : Nat) (t : TypeId) (r : Value), f.resultTypes[j]? = some t → (v.resultList f.resultTypes.size)[j]? = some r → Value.okWide P W' .any 0 t r) :
    s.post enc P f apart fresh handsOn again W args v W' := by
  refine ⟨ds, gs, [], [], [], [], hW, hres _ _ _, hargs _, hvars _, kept_of_add ha _, fun _ => ?_⟩
  refine ⟨hok, _, _, ([] ++ []) ++ [], ⟨[] ++ [], [], trodAll_append (hargs _) (hres _ _ _), hvars _, rfl, ?_, ?_⟩, ?_⟩
  · intro b off hp
    simp at hp
  · intro _
    simp
  · intro p hp _
    simp at hp

/-- Such a world, but for what the handle holds. -/
def laidOf (w0 : World) : World :=
  { w0 with heap := w0.heap.modify 2 fun
      | .cells _ t frozen => .cells #[errT] t frozen
      | o => o }
theorem laidMet_over {P : Program} {w0 : World} {laid : List (String × DataW Unit)} (hf : w0.layFits P laid [] = true) (hi : w0.layIfaces P laid (w0.layVars P laid) = true) : laidMet P laid (w0.layVars P laid) := by
  have e1 : (laid.filter fun x => (laid.map (·.1)).contains x.1) = laid := List.filter_eq_self.2 fun x hx => List.contains_iff_mem.2 (List.mem_map.2 ⟨x, hx, rfl⟩)
  have e2 : (laid.filter fun x => !(laid.map (·.1)).contains x.1) = [] := List.filter_eq_nil_iff.2 fun x hx => by rw [List.contains_iff_mem.2 (List.mem_map.2 ⟨x, hx, rfl⟩)]; simp
  exact laidMet_layVars (w0 := w0) (laid.map (·.1)) [] (by rw [e1]) (by rw [e1]; exact hf) (by rw [e1]; exact hi) (by rw [e2]; exact LaidIn.none)
theorem plain8_is : (Rows.syntaxBackRow.laid.filter fun x => x.2.handleName?.isNone) = plain8 := by rfl
theorem wit_met (os : Os) (args : Array Value) : laidMetH Tryz.prog Rows.syntaxBackRow.laid ((((laidOf (World.holding Tryz.prog os ⟨#[], #[], []⟩)).layVars Tryz.prog plain8)).forCall (fun _ _ => 0) ⟨#[], args, []⟩).memory := by
  have h : laidMet Tryz.prog plain8 ((laidOf (World.holding Tryz.prog os ⟨#[], #[], []⟩)).layVars Tryz.prog plain8) := laidMet_over (by kernel_rfl) (by kernel_rfl)
  have h2 : laidMet Tryz.prog plain8 ((((laidOf (World.holding Tryz.prog os ⟨#[], #[], []⟩)).layVars Tryz.prog plain8)).forCall (fun _ _ => 0) ⟨#[], args, []⟩).memory := h.of_heap (by simp [World.memory, World.forCall, Input.heap])
  exact laidMetH_of_parts (by rw [plain8_is]; exact h2) (by kernel_rfl)

set_option maxRecDepth 100000 in
theorem lifted (os : Os) (started : os.Started) (H : Type) (enc : TypeId × Value → H) :
    ReturnsInHanded {} Tryz.checked os 4 .any (fun w args => (Rows.syntaxBackSpec.pre enc Tryz.prog Tryz.f4 [] false w args ∧ laidMetH Tryz.prog Rows.syntaxBackRow.laid w) ∧ sizedMet enc Tryz.prog Tryz.f4 (OpenSpec.ofChange Rows.syntaxBackSpec) false w args)
      (Rows.syntaxBackSpec.post enc Tryz.prog Tryz.f4 false true false false) := by
  refine returnsInHanded_of_change_and (C := Tryz.checked) (X := fun w _ => laidMetH Tryz.prog Rows.syntaxBackRow.laid w) (fun _ _ _ hh h => h.of_heap hh) own started (by kernel_rfl) Tryz.func4
    (ChangeSpec.witness_shaped (enc := enc) (C := Tryz.checked) (os := os) (X := fun w _ => laidMetH Tryz.prog Rows.syntaxBackRow.laid w) false ((laidOf (World.holding Tryz.prog os ⟨#[], #[], []⟩)).layVars Tryz.prog plain8) #[.string ByteArray.empty] 8 (World.layVars_os _ _ _) (World.shaped_of_ZipB (by kernel_rfl) (by kernel_rfl)) (by kernel_rfl) (by kernel_rfl) (by kernel_rfl)
      (wit_met os _)) ?_
  intro W base args ds gs before hval0 hW _ _ hL _
  have hval : ∀ (j : Nat) t v, Tryz.f4.params[j]? = some t → args[j]? = some v → Value.okWide Tryz.prog W .any base t v := hval0
  have hW' := hW
  obtain ⟨p, q, hA0, hV, rfl, hfz, hnd⟩ := hW
  have hA : DataW.TrodAll enc Tryz.prog W 0 (fun _ => true) true Tryz.f4.params.toList args.toList ds p := hA0
  rw [Tryz.params4] at hA hval
  obtain ⟨v0, d0, rfl, rfl, h0⟩ := trodAll_one hA
  obtain ⟨rfl, rfl⟩ := trodVars_none hV
  obtain ⟨s, rfl, rfl, rfl, hs⟩ := open_string Tryz.underlying9 (hval 0 9 v0 rfl rfl) h0
  clear hA0 hval0
  simp only [List.append_nil] at hW'
  refine (back_any (of_laid hL) s (by unfold maxLen at hs; exact hs)).mono fun e W' ⟨he, hb⟩ => ?_
  have ha := below_add hb
  subst he
  exact ⟨_, rfl, post_of_add hW' (fun _ _ _ => trodAll_mk1 (shut_bool Tryz.underlying4 _)) (fun sp => trodAll_mk1 (shut_string Tryz.underlying9 hs)) (fun _ => rfl) ha
    (ok_one (by kernel_rfl) rfl (okWide_bool_mk Tryz.underlying4 _))⟩

theorem syntaxBack_holds : Rows.SyntaxBackSaid :=
  OpenClaim.holds_of_wide 4 Tryz.f4 rfl rfl rfl rfl rfl rfl rfl ⟨rfl, rfl, rfl, rfl, rfl⟩ rfl rfl rfl rfl rfl (by kernel_rfl) Tryz.func4 (by kernel_rfl)
    (of_decide_eq_true (by kernel_rfl)) (by unfold Func.isWrapper; first | (rw [if_pos (by decide +kernel)]; kernel_rfl) | (rw [if_neg (by decide +kernel)]; exact ⟨rfl, rfl⟩))
    (fun os started H enc _ => lifted os started H enc)

theorem plain (f : FuncId) (fn : Func) (hf : Tryz.pinned.checked.prog.funcNamed "rewind/rewindkeep.SyntaxBack" = some f) (hfn : Tryz.pinned.checked.prog.funcs[f]? = some fn) :
    true = Tryz.pinned.checked.prog.looks [] ∧ ∀ (j : Nat) t, fn.params[j]? = some t → Tryz.pinned.checked.prog.wantsStandIn t = false := by
  obtain rfl : f = 4 := Option.some.inj ((show Tryz.prog.funcNamed "rewind/rewindkeep.SyntaxBack" = some 4 by kernel_rfl).symm.trans hf) |>.symm
  obtain rfl : fn = Tryz.f4 := (Option.some.inj (Tryz.func4.symm.trans hfn)).symm
  refine ⟨by kernel_rfl, fun j t ht => ?_⟩
  rw [Tryz.params4] at ht
  have hm : t = 9 := by simpa using Array.mem_of_getElem? ht
  subst hm
  exact (show Tryz.prog.wantsStandIn 9 = false by kernel_rfl)

theorem card_holds : Rows.SyntaxBackCardSaid :=
  Claim7.holds_tied_plain_at .later [] _ _ _ _ syntaxBack_holds (fun _ h => by cases h) (by kernel_rfl) (fun _ h => by cases h) syntaxBack_row_tie rfl ⟨rfl, rfl⟩ (by kernel_rfl) rfl plain (by kernel_rfl)
#print axioms card_holds
end Go.Proofs.YtndgajlidckcdaaGreatDoor
