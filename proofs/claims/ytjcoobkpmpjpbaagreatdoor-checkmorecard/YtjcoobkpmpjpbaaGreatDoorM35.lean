/-
  A program's table is made of its heads.
  A program is checked: its table, or something is wrong.
-/
import Derived.Test.YtjcoobkpmpjpbaaGreatDoorM34
namespace Go.Proofs.YtjcoobkpmpjpbaaGreatDoor
open Go.RowKit Go.Maps
set_option linter.unusedSimpArgs false
set_option linter.unusedVariables false

theorem PRow.typ {M B : Nat} {w : World} {v : Value} {l : List Tree} {vs : List Value} (h : PRow M B w v l vs) {g : Nat} (hg : v.ownBlock = some g) : ∃ cur, w.heap[g]? = some (.cells cur 22 (0, 0)) := by
  rcases h.own.2 with ⟨q1, q2⟩ | ⟨g', cap, cur, q1, q2, q3, _⟩
  · rw [q1] at hg
    cases hg
  · rw [q1] at hg
    simp only [Value.ownBlock, Option.some.injEq] at hg
    subst hg
    exact ⟨cur, q3⟩
/-- What a class's row in the table holds. -/
def ClsRow (M B : Nat) (w : World) (cs : List Tree) (c : Tree) (j : Nat) (xs : List Value) : Prop := ∃ vl vm vs, xs[j * 4]? = some (.string c.text) ∧ xs[j * 4 + 1]? = some (.int .i64 (clsV (numF cs c.under))) ∧ xs[j * 4 + 2]? = some vl ∧ xs[j * 4 + 3]? = some vm ∧ (∃ a n k, vl = .slice a n k) ∧ PRow M B w vm (methodsIn c) vs
/-- A table that is being made. -/
structure TMk (M : Nat) (w wr : World) (vfn : Value) (cs : List Tree) (i : Nat) (vc : Value) (xs : List Value) : Prop where
  bel : Below w.heap.size w wr
  blk : wr.heap[w.heap.size]? = some (.cells #[vc, vfn] 39 (0, 0))
  own : wr.ownsRow (w.heap.size + 1) 54 4 vc i xs
  row : ∀ (j : Nat) (c : Tree), j < i → cs[j]? = some c → ClsRow M (w.heap.size + 1) wr cs c j xs
theorem TMk.far {M : Nat} {w wr : World} {vfn : Value} {cs : List Tree} {i : Nat} {vc : Value} {xs : List Value} (h : TMk M w wr vfn cs i vc xs) {g : Nat} (hg : vc.ownBlock = some g) : w.heap.size + 1 ≤ g ∧ ∃ cur, wr.heap[g]? = some (.cells cur 54 (0, 0)) := by
  rcases h.own.2 with ⟨q1, q2⟩ | ⟨g', cap, cur, q1, q2, q3, _⟩
  · rw [q1] at hg
    cases hg
  · rw [q1] at hg
    simp only [Value.ownBlock, Option.some.injEq] at hg
    subst hg
    exact ⟨q2, cur, q3⟩
theorem TMk.form {M : Nat} {w wr : World} {vfn : Value} {cs : List Tree} {i : Nat} {vc : Value} {xs : List Value} (h : TMk M w wr vfn cs i vc xs) : ∃ a cap, vc = .slice a i cap := by
  rcases h.own.2 with ⟨q1, q2⟩ | ⟨g, cap, cur, q1, _⟩
  · exact ⟨none, 0, by rw [q1, q2]⟩
  · exact ⟨_, _, q1⟩
theorem ClsRow.keep {M B : Nat} {w w' : World} {cs : List Tree} {c : Tree} {j : Nat} {xs : List Value} (h : ClsRow M B w cs c j xs) (hM : ∀ k, k < M → w'.heap[k]? = w.heap[k]?) (hv : ∀ (g : Nat) (cur : Array Value), w.heap[g]? = some (.cells cur 22 (0, 0)) → w'.heap[g]? = w.heap[g]?) : ClsRow M B w' cs c j xs := by
  obtain ⟨vl, vm, vs, a0, a1, a2, a3, a4, a5⟩ := h
  refine ⟨vl, vm, vs, a0, a1, a2, a3, a4, a5.keep hM fun g hg => ?_⟩
  obtain ⟨cur, q⟩ := a5.typ hg
  exact hv g cur q
theorem TMk.below {M : Nat} {w wr w' : World} {vfn : Value} {cs : List Tree} {i : Nat} {vc : Value} {xs : List Value} (h : TMk M w wr vfn cs i vc xs) (hM : M ≤ w.heap.size) (hb : Below wr.heap.size wr w') : TMk M w w' vfn cs i vc xs := by
  have hs := (Array.getElem?_eq_some_iff.1 h.blk).1
  refine ⟨h.bel.trans (hb.mono h.bel.size), (hb.block _ hs).trans h.blk, ⟨h.own.1, ?_⟩, fun j c hj hc => (h.row j c hj hc).keep (fun k hk => hb.block k (by omega)) (fun g cur q => hb.block g (Array.getElem?_eq_some_iff.1 q).1)⟩
  rcases h.own.2 with q | ⟨g, cap, cur, q1, q2, q3, q4⟩
  · exact Or.inl q
  · exact Or.inr ⟨g, cap, cur, q1, q2, (hb.block g (Array.getElem?_eq_some_iff.1 q3).1).trans q3, q4⟩
/-- One class more. -/
theorem TMk.more {M : Nat} {w W w3 : World} {vfn : Value} {cs : List Tree} {i : Nat} {vc : Value} {xs : List Value} (h : TMk M w W vfn cs i vc xs) (hM : M ≤ w.heap.size) {g cap : Nat} {c : Tree} (hc : cs[i]? = some c) {vl vm : Value} {vs : List Value} (hown : w3.ownsRow (w.heap.size + 1) 54 4 (.slice (some ⟨g, 0, none⟩) (i + 1) cap) (i + 1) (xs ++ [.string c.text, .int .i64 (clsV (numF cs c.under)), vl, vm])) (hg : W.grownBy w3 vc.ownBlock) (hat : vc.ownBlock = some g ∨ g = W.heap.size) (hl : ∃ a n k, vl = .slice a n k) (hm : PRow M (w.heap.size + 1) W vm (methodsIn c) vs) :
    w3.heap[w.heap.size]? = some (.cells #[vc, vfn] 39 (0, 0)) ∧ Hid (TMk M w (w3.setCell ⟨w.heap.size, 0, none⟩ (.slice (some ⟨g, 0, none⟩) (i + 1) cap)) vfn cs (i + 1) (.slice (some ⟨g, 0, none⟩) (i + 1) cap) (xs ++ [.string c.text, .int .i64 (clsV (numF cs c.under)), vl, vm])) := by
  have hs := (Array.getElem?_eq_some_iff.1 h.blk).1
  have hne : ∀ k, k < w.heap.size + 1 → some k ≠ vc.ownBlock := fun k hk e => by
    have := (h.far e.symm).1
    omega
  have hb3 := (hg.block w.heap.size hs (hne _ (by omega))).trans h.blk
  have hgs : w.heap.size + 1 ≤ g := by
    rcases hat with e | e
    · exact (h.far e).1
    · omega
  have kS : ∀ k, k ≠ w.heap.size → (w3.setCell ⟨w.heap.size, 0, none⟩ (.slice (some ⟨g, 0, none⟩) (i + 1) cap)).heap[k]? = w3.heap[k]? := fun k hk => hother _ hk
  have hN : ∀ (k : Nat) (cur : Array Value), W.heap[k]? = some (.cells cur 22 (0, 0)) → (w3.setCell ⟨w.heap.size, 0, none⟩ (.slice (some ⟨g, 0, none⟩) (i + 1) cap)).heap[k]? = W.heap[k]? := fun k cur q => by
    have h1 : k ≠ w.heap.size := fun e => by
      subst e
      rw [h.blk] at q
      cases q
    have h2 : some k ≠ vc.ownBlock := fun e => by
      obtain ⟨_, cur2, q2⟩ := h.far e.symm
      rw [q2] at q
      cases q
    exact (kS k h1).trans (hg.block k (Array.getElem?_eq_some_iff.1 q).1 h2)
  have hMk : ∀ k, k < M → (w3.setCell ⟨w.heap.size, 0, none⟩ (.slice (some ⟨g, 0, none⟩) (i + 1) cap)).heap[k]? = W.heap[k]? := fun k hk => (kS k (by omega)).trans (hg.block k (by omega) (hne k (by omega)))
  have hx := h.own.1
  refine ⟨hb3, ⟨(h.bel.grown hg h.bel.size (fun k hk => by have := (h.far hk).1; omega)).setCell (p := ⟨w.heap.size, 0, none⟩) (Nat.le_refl _) _, by rw [hset hb3]; rfl, ⟨hown.1, ?_⟩, fun j d hj hd => ?_⟩⟩
  · rcases hown.2 with q | ⟨g', cap', cur, q1, q2, q3, q4⟩
    · exact Or.inl q
    · exact Or.inr ⟨g', cap', cur, q1, q2, (kS g' (by omega)).trans q3, q4⟩
  · by_cases hji : j < i
    · obtain ⟨vl', vm', vs', a0, a1, a2, a3, a4, a5⟩ := (h.row j d hji hd).keep hMk hN
      exact ⟨vl', vm', vs', by rw [List.getElem?_append_left (by omega)]; exact a0, by rw [List.getElem?_append_left (by omega)]; exact a1, by rw [List.getElem?_append_left (by omega)]; exact a2, by rw [List.getElem?_append_left (by omega)]; exact a3, a4, a5⟩
    · obtain rfl : j = i := by omega
      rw [hc] at hd
      cases hd
      refine ⟨vl, vm, vs, ?_, ?_, ?_, ?_, hl, hm.keep hMk fun g2 q => ?_⟩
      · rw [List.getElem?_append_right (by omega), show j * 4 - xs.length = 0 by omega]; rfl
      · rw [List.getElem?_append_right (by omega), show j * 4 + 1 - xs.length = 1 by omega]; rfl
      · rw [List.getElem?_append_right (by omega), show j * 4 + 2 - xs.length = 2 by omega]; rfl
      · rw [List.getElem?_append_right (by omega), show j * 4 + 3 - xs.length = 3 by omega]; rfl
      · obtain ⟨cur, q2⟩ := hm.typ q
        exact hN g2 cur q2
/-- At its end it is a table. -/
theorem TMk.tab {M : Nat} {w wr : World} {vfn : Value} {cs fns : List Tree} {vc : Value} {xs : List Value} (h : TMk M w wr vfn cs cs.length vc xs) (hM : M ≤ w.heap.size) (hf : ListAt M w vfn fns) (hl : cs.length ≤ 1000000) : TabAt wr.heap.size wr w.heap.size ⟨cs, fns⟩ vc vfn := by
  have hs := (Array.getElem?_eq_some_iff.1 h.blk).1
  refine ⟨hs, h.blk, ?_, h.form, hl, fun i c hc => ?_⟩
  · obtain ⟨g, cap, h1, h2, h3⟩ := hf.keep (w' := wr) fun k hk => h.bel.block k (by omega)
    refine ⟨g, cap, h1, h2, fun i t ht => ?_⟩
    obtain ⟨a, b, e, ha, hcell, hn⟩ := h3 i t ht
    exact ⟨a, b, e, by omega, hcell, NodeAt.mono hn fun k hk => by omega⟩
  · have hi : i < cs.length := (List.getElem?_eq_some_iff.1 hc).1
    obtain ⟨vl, vm, vs, a0, a1, a2, a3, a4, a5⟩ := h.row i c hi hc
    rcases h.own.2 with ⟨q1, q2⟩ | ⟨g, cap, cur, q1, q2, q3, q4, q5, q6, q7⟩
    · have q2' : cs.length = 0 := q2
      omega
    · have hx := h.own.1
      have at' : ∀ (j : Nat) (v : Value), j < cs.length * 4 → xs[j]? = some v → wr.cell? ⟨g, j, none⟩ = some v := fun j v hj hv => by
        rw [hcell q3 j, ← hv, ← q7, ← Array.getElem?_toList, List.getElem?_take_of_lt hj]
      exact ⟨g, cap, vl, vm, q1, (Array.getElem?_eq_some_iff.1 q3).1, at' _ _ (by omega) a0, at' _ _ (by omega) a1, at' _ _ (by omega) a2, at' _ _ (by omega) a3, a4, a5.list (by omega)⟩
def TablePost (w : World) (cs fns : List Tree) (e : Ending) (w' : World) : Prop := Below w.heap.size w w' ∧ ((tableOk cs ∧ ∃ tp vc vf, e = .returned (.tuple #[.pointer (some ⟨tp, 0, none⟩), .nilIface]) ∧ TabAt w'.heap.size w' tp ⟨cs, fns⟩ vc vf) ∨ (¬ tableOk cs ∧ ∃ tt pp, e = .returned (.tuple #[.pointer none, .iface tt pp])))
theorem cell_al2 {w : World} {a : Addr} {v : Value} (h : w.cell? a = some v) (o : Obj) : (w.alloc o).cell? a = some v := (World.cell?_alloc_lt _ _ a (cell_ltK h)).trans h
theorem infoClass : (Tryz.prog.info? 54).map (fun i => (i.zero, i.size, i.bytes)) = some (some (.agg #[.string ByteArray.empty, .int .i64 0, .slice none 0 0, .slice none 0 0]), 4, 72) := by kernel_rfl
theorem enterAbove (args : Array Value) (w : World) : (callFunc 28 args).run Tryz.prog w = .ok (.enter 28 args) w := enters_of Tryz.func28 (by kernel_rfl) rfl args w
theorem news_cls (w : World) (a b c d : Value) : ∀ (j : Nat) (u : Value), [a, b, c, d][j]? = some u → (w.alloc (.cells #[a, b, c, d] 54)).cell? ((⟨w.heap.size, 0, none⟩ : Addr).add j) = some u := fun j u h => World.news_of_block (hnew w (.cells #[a, b, c, d] 54)) j u h

set_option maxRecDepth 100000 in
set_option maxHeartbeats 8000000 in
theorem table_any {M : Nat} {w : World} {hp nb : Nat} {vcl vfn : Value} {cs fns : List Tree} (h : HdAt M w hp nb vcl vfn cs fns) (hM : M ≤ w.heap.size) (hw : ∀ c ∈ cs, Wf c) (hk : ∀ c ∈ cs, c.kids.length ≤ 1000000) (he : EndOk cs) (hcl : cs.length ≤ 1000000) :
    Calls Tryz.prog 13 #[.pointer (some ⟨hp, 0, none⟩)] w fun e w' => TablePost w cs fns e w' := by
  have b0 : w.cell? ⟨hp, 0, none⟩ = some vcl := hcell h.blk 0
  have b1 : w.cell? ⟨hp, 1, none⟩ = some vfn := hcell h.blk 1
  have HFN := hide h.fns
  have HH := hide h
  have HCLS := hide h.cls
  obtain ⟨g, cap, rfl, hmax, _⟩ := h.cls
  obtain ⟨gf, capf, rfl, _, _⟩ := h.fns
  obtain ⟨L, hL⟩ : ∃ L, cs.length = L := ⟨_, rfl⟩
  have HLEN := hide hL
  obtain ⟨LF, hLF⟩ : ∃ LF, fns.length = LF := ⟨_, rfl⟩
  have HLF := hide hLF
  rw [hL] at b0 hcl hmax
  rw [hLF] at b1
  have HM := hide hM
  have HWF := hide hw
  have HKL := hide hk
  have HE := hide he
  have HCL := hide hcl
  have neq0 : ∀ X : World, (binOp BinOp.neq 28 .nilIface .nilIface).run Tryz.prog X = .ok (.bool false) X := fun _ => by kernel_rfl
  obtain ⟨i0, hi0, hz0, hz1, hz2⟩ := info_parts infoClass
  have hb1 := (Below.refl w.heap.size w).alloc (Nat.le_refl _) (.cells #[.slice none 0 0, .slice gf LF capf] 39)
  have d0 := hcellB hb1 b0
  have HT0 : Hid (TMk M w (w.alloc (.cells #[.slice none 0 0, .slice gf LF capf] 39)) (.slice gf LF capf) cs 0 (.slice none 0 0) []) := ⟨hb1, hnew w _, World.ownsRow_nil _ _ _ _, fun j c hj => absurd hj (Nat.not_lt_zero j)⟩
  clear h hM hw hk he hL hLF hb1 b0 hmax
  go_enter Tryz.func13, Tryz.ntmps13
  go_wp2_with fail
  generalize w.alloc (.cells #[.slice none 0 0, .slice gf LF capf] 39) = W at *
  go_loopg [21] L (fun gg iv wr => ∃ (i : Nat) (vc : Value) (xs : List Value), i ≤ L ∧ gg = L - i ∧ iv = .int .i64 i ∧ Hid (TMk M w wr (.slice gf LF capf) cs i vc xs) ∧ Hid (∀ (j : Nat) (c : Tree), j < i → cs[j]? = some c → rowOk cs j c))
  case atStart => exact ⟨0, .slice none 0 0, [], Nat.zero_le _, rfl, rfl, HT0, fun j c hj => absurd hj (Nat.not_lt_zero j)⟩
  case round =>
    obtain ⟨i, vc, xs, hi, rfl, rfl, HT, HR⟩ := hrel
    by_cases hlt2 : i < L
    · have hlt3 : (i : Int) < (L : Int) := by omega
      obtain ⟨c, hc⟩ : ∃ c, cs[i]? = some c := ⟨_, List.getElem?_eq_getElem (by have := unhide HLEN; omega)⟩
      have hHi := (unhide HH).keep (w' := wr) fun k hk => (unhide HT).bel.block k (Nat.lt_of_lt_of_le hk (unhide HM))
      have hMr := Nat.le_trans (unhide HM) (unhide HT).bel.size
      obtain ⟨g', cap', e1, _, hat⟩ := hHi.cls
      cases e1
      obtain ⟨a, bn, rfl, ha, hcc, hnd⟩ := hat i c hc
      obtain ⟨kk, hkv⟩ := node_view hnd
      have x1 := hkv.c1
      have HND := hide hnd
      have HBN := hide hkv.lt
      have HHI := hide hHi
      have HMR := hide hMr
      have hmem := List.mem_of_getElem? hc
      have HWC := hide (unhide HWF c hmem)
      have HKC := hide (unhide HKL c hmem)
      have HC := hide hc
      clear hat hkv hnd hc hHi hMr hmem
      go_wp2_with fail
      refine (fields_any (unhide HHI) (unhide HMR) (fun c hc => (unhide HWF c hc)) (unhide HKL) (unhide HE) (by have := unhide HLEN; omega) (unhide HC)).mono ?_
      rintro e W2 ⟨hb2, hor2⟩
      have HT2 := hide ((unhide HT).below (unhide HM) hb2)
      have HB2 := hide hb2
      clear hb2
      rcases hor2 with ⟨hn2, vl, rfl, a2, n2, k2, rfl⟩ | ⟨hn2, vl, tt, pp, rfl⟩
      · have HN2 := hide hn2
        clear hn2
        go_wp2_with fail
        refine (methodsOf_any (M := M) (Nat.le_trans (unhide HMR) (unhide HB2).size) (node_keep (unhide HND) fun k hk => (unhide HB2).block k (Nat.lt_of_lt_of_le hk (unhide HMR))) (unhide HKC) (fun k hk => (unhide HWC).kid hk)).mono ?_
        rintro e W3 ⟨hb3, hor3⟩
        have HT3 := hide ((unhide HT2).below (unhide HM) hb3)
        have HB3 := hide ((unhide HB2).trans (hb3.mono (unhide HB2).size))
        have HW2 := hide (show w.heap.size + 1 ≤ W2.heap.size from (Array.getElem?_eq_some_iff.1 (unhide HT2).blk).1)
        clear hb3 HT2
        rcases hor3 with ⟨hn3, vm, vs, rfl, hp3⟩ | ⟨hn3, vm, tt, pp, rfl⟩
        · obtain ⟨am, capm, rfl⟩ := hp3.form
          obtain ⟨LM, hLM⟩ : ∃ LM, (methodsIn c).length = LM := ⟨_, rfl⟩
          rw [hLM] at hp3 ⊢
          have HP3 := hide (show PRow M (w.heap.size + 1) W3 (.slice am LM capm) (methodsIn c) vs from ⟨⟨hp3.own.1, hp3.own.2.imp id (fun ⟨g, cap, cur, q1, q2, q3⟩ => ⟨g, cap, cur, q1, by have := unhide HW2; omega, q3⟩)⟩, hp3.node⟩)
          have HN3 := hide hn3
          clear hn3 hp3 hLM
          obtain ⟨av, capv, rfl⟩ := (unhide HT3).form
          have z0 := hcell (unhide HT3).blk 0
          simp only [List.getElem?_toArray, List.getElem?_cons_zero, List.getElem?_cons_succ] at z0
          have z1 : W3.cell? ⟨bn, 1, none⟩ = some (.string c.text) := cellB (unhide HB3) x1 (show bn < wr.heap.size by have := unhide HBN; have := unhide HMR; omega)
          have HHW := hide ((unhide HHI).keep (w' := W3) fun k hk => (unhide HB3).block k (Nat.lt_of_lt_of_le hk (unhide HMR)))
          have ent := enterAbove
          go_wp2_with fail
          refine region_till (S := fun w' => w'.cell? ⟨w.heap.size, 0, none⟩ = some (.slice av i capv) ∧ w'.cell? ⟨bn, 1, none⟩ = some (.string c.text)) 19 (by kernel_rfl) ⟨z0, z1⟩ (fun hHeld => ?_)
          refine tillC_pure (i := 0) (oi := { dst := some 43, op := _, type := _, pos := _, after := _, guard := _ }) (v := ?_) rfl (by kernel_rfl) (by kernel_rfl) (by kernel_rfl) (by rfl) (fun _ _ _ h => h) (Or.inl ⟨by rfl, ?_⟩) (by assumption) ?_
          case refine_2 =>
            intro w hSw
            try dsimp only at hSw
            go_simp
            try with_reducible rfl
          simp only [Act.put, List.setIfInBounds_toArray, List.set_cons_zero, List.set_cons_succ]
          refine tillC_pure (i := 1) (oi := { dst := some 44, op := _, type := _, pos := _, after := _, guard := _ }) (v := ?_) rfl (by kernel_rfl) (by kernel_rfl) (by kernel_rfl) (by rfl) (fun _ _ _ h => h) (Or.inl ⟨by rfl, ?_⟩) (by assumption) ?_
          case refine_2 =>
            intro w hSw
            try dsimp only at hSw
            go_simp
            try with_reducible rfl
          simp only [Act.put, List.setIfInBounds_toArray, List.set_cons_zero, List.set_cons_succ]
          refine tillC_pure (i := 2) (oi := { dst := some 45, op := _, type := _, pos := _, after := _, guard := _ }) (v := ?_) rfl (by kernel_rfl) (by kernel_rfl) (by kernel_rfl) (by rfl) (fun _ _ _ h => h) (Or.inl ⟨by rfl, ?_⟩) (by assumption) ?_
          case refine_2 =>
            intro w hSw
            try dsimp only at hSw
            go_simp
            try with_reducible rfl
          simp only [Act.put, List.setIfInBounds_toArray, List.set_cons_zero, List.set_cons_succ]
          refine tillC_pure (i := 3) (oi := { dst := some 46, op := _, type := _, pos := _, after := _, guard := _ }) (v := ?_) rfl (by kernel_rfl) (by kernel_rfl) (by kernel_rfl) (by rfl) (fun _ _ _ h => h) (Or.inl ⟨by rfl, ?_⟩) (by assumption) ?_
          case refine_2 =>
            intro w hSw
            try dsimp only at hSw
            go_simp
            try with_reducible rfl
          simp only [Act.put, List.setIfInBounds_toArray, List.set_cons_zero, List.set_cons_succ]
          refine tillC_take (i := 4) (cs := [16, 19]) (oi := { dst := some 47, op := _, type := _, pos := _, after := _, guard := _ }) (v := ?_) rfl (by kernel_rfl) (by kernel_rfl) (by kernel_rfl) (by rfl) (by kernel_rfl) (fun _ _ _ h => h) (Or.inl ⟨by rfl, ?_⟩) (by assumption) ?_
          case refine_2 =>
            intro w hSw
            try dsimp only at hSw
            go_simp
            try with_reducible rfl
          simp only [Act.put, List.setIfInBounds_toArray, List.set_cons_zero, List.set_cons_succ]
          refine tillC_pure (i := 5) (oi := { dst := some 48, op := _, type := _, pos := _, after := _, guard := _ }) (v := ?_) rfl (by kernel_rfl) (by kernel_rfl) (by kernel_rfl) (by rfl) (fun _ _ _ h => h) (Or.inl ⟨by rfl, ?_⟩) (by assumption) ?_
          case refine_2 =>
            intro w hSw
            try dsimp only at hSw
            go_simp
            try with_reducible rfl
          simp only [Act.put, List.setIfInBounds_toArray, List.set_cons_zero, List.set_cons_succ]
          refine tillC_pure (i := 6) (oi := { dst := some 49, op := _, type := _, pos := _, after := _, guard := _ }) (v := ?_) rfl (by kernel_rfl) (by kernel_rfl) (by kernel_rfl) (by rfl) (fun _ _ _ h => h) (Or.inl ⟨by rfl, ?_⟩) (by assumption) ?_
          case refine_2 =>
            intro w hSw
            try dsimp only at hSw
            go_simp
            try with_reducible rfl
          simp only [Act.put, List.setIfInBounds_toArray, List.set_cons_zero, List.set_cons_succ]
          refine tillC_pure (i := 7) (oi := { dst := some 50, op := _, type := _, pos := _, after := _, guard := _ }) (v := ?_) rfl (by kernel_rfl) (by kernel_rfl) (by kernel_rfl) (by rfl) (fun _ _ _ h => h) (Or.inl ⟨by rfl, ?_⟩) (by assumption) ?_
          case refine_2 =>
            intro w hSw
            try dsimp only at hSw
            go_simp
            try with_reducible rfl
          simp only [Act.put, List.setIfInBounds_toArray, List.set_cons_zero, List.set_cons_succ]
          refine tillC_take (i := 8) (cs := [14, 15, 16, 19]) (oi := { dst := some 51, op := _, type := _, pos := _, after := _, guard := _ }) (v := ?_) rfl (by kernel_rfl) (by kernel_rfl) (by kernel_rfl) (by rfl) (by kernel_rfl) (fun _ _ _ h => h) (Or.inl ⟨by rfl, ?_⟩) (by assumption) ?_
          case refine_2 =>
            intro w hSw
            try dsimp only at hSw
            go_simp
            try with_reducible rfl
          simp only [Act.put, List.setIfInBounds_toArray, List.set_cons_zero, List.set_cons_succ]
          refine tillC_pure (i := 9) (oi := { dst := some 52, op := _, type := _, pos := _, after := _, guard := _ }) (v := ?_) rfl (by kernel_rfl) (by kernel_rfl) (by kernel_rfl) (by rfl) (fun _ _ _ h => h) (Or.inl ⟨by rfl, ?_⟩) (by assumption) ?_
          case refine_2 =>
            intro w hSw
            try dsimp only at hSw
            go_simp
            try with_reducible rfl
          simp only [Act.put, List.setIfInBounds_toArray, List.set_cons_zero, List.set_cons_succ]
          refine tillC_pure (i := 10) (oi := { dst := some 53, op := _, type := _, pos := _, after := _, guard := _ }) (v := ?_) rfl (by kernel_rfl) (by kernel_rfl) (by kernel_rfl) (by rfl) (fun _ _ _ h => h) (Or.inl ⟨by rfl, ?_⟩) (by assumption) ?_
          case refine_2 =>
            intro w hSw
            try dsimp only at hSw
            go_simp
            try with_reducible rfl
          simp only [Act.put, List.setIfInBounds_toArray, List.set_cons_zero, List.set_cons_succ]
          refine tillC_pure (i := 12) (oi := { dst := some 55, op := _, type := _, pos := _, after := _, guard := _ }) (v := ?_) rfl (by kernel_rfl) (by kernel_rfl) (by kernel_rfl) (by rfl) (fun _ _ _ h => h) (Or.inl ⟨by rfl, ?_⟩) (by assumption) ?_
          case refine_2 =>
            intro w hSw
            try dsimp only at hSw
            go_simp
            try with_reducible rfl
          simp only [Act.put, List.setIfInBounds_toArray, List.set_cons_zero, List.set_cons_succ]
          refine tillC_pure (i := 13) (oi := { dst := some 56, op := _, type := _, pos := _, after := _, guard := _ }) (v := ?_) rfl (by kernel_rfl) (by kernel_rfl) (by kernel_rfl) (by rfl) (fun _ _ _ h => h) (Or.inl ⟨by rfl, ?_⟩) (by assumption) ?_
          case refine_2 =>
            intro w hSw
            try dsimp only at hSw
            go_simp
            try with_reducible rfl
          simp only [Act.put, List.setIfInBounds_toArray, List.set_cons_zero, List.set_cons_succ]
          refine tillC_one (i := 11) (o := { dst := some 54, op := _, type := _, pos := _, after := _, guard := _ }) (by kernel_rfl) rfl (fun K hK => ?_)
          refine step_enter rfl (by simp [Act.eval, ent, go_sem]) ((above_any ((unhide HHW).keep (w' := W3.drew) fun _ _ => rfl) (unhide HC) (unhide HWC).here.2.2).mono ?_)
          rintro e W4 ⟨rfl, hb4⟩
          have HB4 := hide (Below.drew (Below.refl W3.heap.size W3) |>.trans hb4)
          have y0 := cellB (unhide HB4) z0 (cell_ltK z0)
          have y1 := cellB (unhide HB4) z1 (cell_ltK z1)
          clear hb4
          refine hK.out _ _ ⟨y0, y1⟩ (fun hHeld => ?_)
          clear hK K
          simp only [Act.put, List.setIfInBounds_toArray, List.set_cons_zero, List.set_cons_succ]
          refine tillC_pure (i := 14) (oi := { dst := some 57, op := _, type := _, pos := _, after := _, guard := _ }) (v := ?_) rfl (by kernel_rfl) (by kernel_rfl) (by kernel_rfl) (by rfl) (fun _ _ _ h => h) (Or.inl ⟨by rfl, ?_⟩) (by assumption) ?_
          case refine_2 =>
            intro w hSw
            try dsimp only at hSw
            go_simp
            try with_reducible rfl
          simp only [Act.put, List.setIfInBounds_toArray, List.set_cons_zero, List.set_cons_succ]
          refine tillC_one (i := 15) (o := { dst := some 58, op := _, type := _, pos := _, after := _, guard := _ }) (by kernel_rfl) rfl (fun K hK => ?_)
          go_simp
          refine hK.out _ _ ⟨cell_al2 y0 _, cell_al2 y1 _⟩ (fun hHeld => ?_)
          clear hK K
          have HT5 := hide ((unhide HT3).below (unhide HM) ((unhide HB4).alloc (unhide HB4).size (.cells #[.string c.text, .int .i64 (clsV (numF cs c.under)), .slice a2 n2 k2, .slice am LM capm] 54)))
          have HP5 := hide ((unhide HP3).below ((unhide HB4).alloc (unhide HB4).size (.cells #[.string c.text, .int .i64 (clsV (numF cs c.under)), .slice a2 n2 k2, .slice am LM capm] 54)) (by have := (unhide HT3).bel.size; have := unhide HM; omega))
          have HS5 := hide (show (W4.alloc (.cells #[.string c.text, .int .i64 (clsV (numF cs c.under)), .slice a2 n2 k2, .slice am LM capm] 54)).heap.size = W4.heap.size + 1 by simp)
          have HY5 := hide (cell_al2 y1 (.cells #[.string c.text, .int .i64 (clsV (numF cs c.under)), .slice a2 n2 k2, .slice am LM capm] 54))
          have HNW := hide (news_cls W4 (.string c.text) (.int .i64 (clsV (numF cs c.under))) (.slice a2 n2 k2) (.slice am LM capm))
          generalize (W4.alloc (.cells #[.string c.text, .int .i64 (clsV (numF cs c.under)), .slice a2 n2 k2, .slice am LM capm] 54)) = W5 at *
          refine tillC_one (i := 16) (o := { dst := some 59, op := _, type := _, pos := _, after := _, guard := _ }) (by kernel_rfl) rfl (fun K hK => ?_)
          refine step_append_lies _ rfl _ _ _ rfl (w.heap.size + 1) 54 i0 (.agg #[.string ByteArray.empty, .int .i64 0, .slice none 0 0, .slice none 0 0]) 4 72 Tryz.underlying36 hi0 hz0 hz1 hz2 rfl (by decide) _ i xs rfl (unhide HT5).own ⟨W4.heap.size, 0, none⟩ 1 1 [.string c.text, .int .i64 (clsV (numF cs c.under)), .slice a2 n2 k2, .slice am LM capm] rfl rfl (unhide HNW) ?_ (by decide) ?_ ?_ ?_ _ rfl ?_
          · intro u hu; simp at hu; rcases hu with rfl | rfl | rfl | rfl <;> rfl
          · have := unhide HCL; unfold maxLen; omega
          · have := unhide HCL; omega
          · exact Nat.le_trans (show w.heap.size + 1 ≤ _ from (Array.getElem?_eq_some_iff.1 (unhide HT5).blk).1) (Nat.le_refl _)
          intro g6 cap6 W6 hown6 hg6 hat6 hlt6
          obtain ⟨hb6, HT7⟩ := (unhide HT5).more (unhide HM) (unhide HC) hown6 hg6 hat6 ⟨_, _, _, rfl⟩ (unhide HP5)
          have y2 := hcell hb6 0
          have f2 := hfroz hb6 0
          simp only [List.getElem?_toArray, List.getElem?_cons_zero, List.getElem?_cons_succ] at y2
          have y3 : W6.cell? ⟨bn, 1, none⟩ = some (.string c.text) := (World.cell?_of_block (hg6.block bn (by have := (unhide HT5).bel.size; have := unhide HBN; have := unhide HM; omega) (fun e => by have := ((unhide HT5).far e.symm).1; have := unhide HBN; have := unhide HM; omega))).trans (unhide HY5)
          clear hown6 hg6 hat6 hlt6 hb6
          refine hK.out _ _ ⟨y2, y3⟩ (fun hHeld => ?_)
          clear hK K
          simp only [Act.put, List.setIfInBounds_toArray, List.set_cons_zero, List.set_cons_succ]
          refine tillC_pure (i := 17) (oi := { dst := some 60, op := _, type := _, pos := _, after := _, guard := _ }) (v := ?_) rfl (by kernel_rfl) (by kernel_rfl) (by kernel_rfl) (by rfl) (fun _ _ _ h => h) (Or.inl ⟨by rfl, ?_⟩) (by assumption) ?_
          case refine_2 =>
            intro w hSw
            try dsimp only at hSw
            go_simp
            try with_reducible rfl
          simp only [Act.put, List.setIfInBounds_toArray, List.set_cons_zero, List.set_cons_succ]
          refine tillC_pure (i := 18) (oi := { dst := some 61, op := _, type := _, pos := _, after := _, guard := _ }) (v := ?_) rfl (by kernel_rfl) (by kernel_rfl) (by kernel_rfl) (by rfl) (fun _ _ _ h => h) (Or.inl ⟨by rfl, ?_⟩) (by assumption) ?_
          case refine_2 =>
            intro w hSw
            try dsimp only at hSw
            go_simp
            try with_reducible rfl
          simp only [Act.put, List.setIfInBounds_toArray, List.set_cons_zero, List.set_cons_succ]
          refine tillC_c (o := { dst := none, op := _, type := _, pos := _, after := _, guard := _ }) (by kernel_rfl) rfl (fun K hK => ?_)
          go_simp
          refine hK.out _ _ ?_
          clear hK K
          refine wpAny_done (by kernel_rfl) ?_ _
          clear hHeld
          go_wp2_with fail
          go_roundg (L - (i + 1))
          case measure => omega
          case rel =>
            refine ⟨i + 1, _, _, by omega, rfl, by go_num, HT7, fun j d hj hd => ?_⟩
            by_cases e : j = i
            · subst e
              have hq := unhide HC
              rw [hq] at hd
              cases hd
              exact ⟨unhide HN2, unhide HN3⟩
            · exact unhide HR j d (by omega) hd
        · have HNF := hide (show ¬ tableOk cs from fun q => hn3 (q i c (unhide HC)).2)
          clear hn3
          have neq1 : ∀ X : World, (binOp BinOp.neq 28 (.iface tt pp) .nilIface).run Tryz.prog X = .ok (.bool true) X := fun _ => by kernel_rfl
          go_wp2_with fail
          go_ret2
          exact ⟨(unhide HT3).bel, Or.inr ⟨unhide HNF, _, _, rfl⟩⟩
      · have HNF := hide (show ¬ tableOk cs from fun q => hn2 (q i c (unhide HC)).1)
        clear hn2
        have neq1 : ∀ X : World, (binOp BinOp.neq 28 (.iface tt pp) .nilIface).run Tryz.prog X = .ok (.bool true) X := fun _ => by kernel_rfl
        go_wp2_with fail
        go_ret2
        exact ⟨(unhide HT2).bel, Or.inr ⟨unhide HNF, _, _, rfl⟩⟩
    · obtain rfl : i = L := by omega
      have hlt3 : decide ((i : Int) < (i : Int)) = false := by simp
      go_wp2_with fail
      go_ret2
      refine ⟨(unhide HT).bel, Or.inl ⟨fun j c hc => unhide HR j c (by have := (List.getElem?_eq_some_iff.1 hc).1; have := unhide HLEN; omega) hc, w.heap.size, vc, .slice gf LF capf, rfl, ?_⟩⟩
      have hT := unhide HT
      have hl := unhide HLEN
      subst hl
      exact hT.tab (unhide HM) (by have := unhide HLF; subst this; exact unhide HFN) (unhide HCL)
end Go.Proofs.YtjcoobkpmpjpbaaGreatDoor

namespace Go.Proofs.YtjcoobkpmpjpbaaGreatDoor
open Go.RowKit Go.Maps
set_option linter.unusedSimpArgs false
set_option linter.unusedVariables false

theorem long_many : ∀ (l : List Tree), l.length ≤ manyL l
  | [] => Nat.zero_le _
  | t :: l => by
    have h1 := long_many l
    have h2 := many_pos t
    show l.length + 1 ≤ ((t :: l).map Tree.many).sum
    rw [List.map_cons, List.sum_cons]
    show l.length + 1 ≤ t.many + manyL l
    omega
theorem cls_mem {l : List Tree} {c : Tree} (h : c ∈ classesOf l) : c ∈ l ∧ c.kind = 2 := by
  unfold classesOf at h
  have := List.mem_filter.1 h
  exact ⟨this.1, by simpa using this.2⟩
theorem fns_mem {l : List Tree} {c : Tree} (h : c ∈ fnsOf l) : c ∈ l ∧ c.kind = 5 := by
  unfold fnsOf at h
  have := List.mem_filter.1 h
  exact ⟨this.1, by simpa using this.2⟩
/-- What is asked of a program: it is one that the reader makes. -/
structure Fair (t : Tree) : Prop where
  wf : Wf t
  many : t.many ≤ 3001
theorem Fair.long {t : Tree} (h : Fair t) : t.kids.length ≤ 3001 := by
  have h1 := long_many t.kids
  have h2 := many_kids t
  have h3 := h.many
  omega
theorem Fair.kid {t k : Tree} (h : Fair t) (hk : k ∈ t.kids) : Fair k := by
  have h1 := many_mem hk
  have h2 := many_kids t
  have h3 := h.many
  exact ⟨h.wf.kid hk, by omega⟩
/-- What comes of a program: the table, if it is right. -/
def ChkPost (w : World) (l : List Tree) (e : Ending) (w' : World) : Prop := Below w.heap.size w w' ∧ ((checkOk 3001 l ∧ ∃ M' tp vc vf, M' ≤ w'.heap.size ∧ e = .returned (.tuple #[.pointer (some ⟨tp, 0, none⟩), .nilIface]) ∧ TabAt M' w' tp (tabOf l) vc vf) ∨ (¬ checkOk 3001 l ∧ ∃ tt pp, e = .returned (.tuple #[.pointer none, .iface tt pp])))

set_option maxRecDepth 100000 in
set_option maxHeartbeats 8000000 in
theorem check_any {M : Nat} {w : World} (hM : M ≤ w.heap.size) {b : Nat} {t : Tree} (hn : NodeAt (fun k => k < M) w (.pointer (some ⟨b, 0, none⟩)) t) (hf : Fair t) :
    Calls Tryz.prog 6 #[.pointer (some ⟨b, 0, none⟩)] w fun e w' => ChkPost w t.kids e w' := by
  have HN := hide hn
  have HM := hide hM
  have HF := hide hf
  have HLL := hide (show t.kids.length ≤ 1000000 by have := hf.long; omega)
  have HWK := hide (fun k hk => hf.wf.kid (k := k) hk)
  have HCL := hide (show (classesOf t.kids).length ≤ 1000000 by have := hf.long; have := List.length_filter_le (fun t : Tree => t.kind == 2) t.kids; unfold classesOf; omega)
  have neq0 : ∀ X : World, (binOp BinOp.neq 28 .nilIface .nilIface).run Tryz.prog X = .ok (.bool false) X := fun _ => by kernel_rfl
  have neq1 : ∀ (tt : TypeId) (pp : Value) (X : World), (binOp BinOp.neq 28 (.iface tt pp) .nilIface).run Tryz.prog X = .ok (.bool true) X := fun _ _ _ => by kernel_rfl
  clear hM hn hf
  go_enter Tryz.func6, Tryz.ntmps6
  go_wp2_with fail
  refine (headsOf_any (unhide HM) (unhide HN) (unhide HLL) (unhide HWK)).mono ?_
  rintro e W1 ⟨hb1, nb, vcl, vfn, rfl, hh1⟩
  have HB1 := hide hb1
  have HH1 := hide hh1
  have HN1 := hide (NodeAt.mono (node_keep (unhide HN) (w' := W1) fun k hk => hb1.block k (Nat.lt_of_lt_of_le hk (unhide HM))) (A' := fun k => k < W1.heap.size) fun k hk => Nat.lt_of_lt_of_le hk (Nat.le_trans (unhide HM) hb1.size))
  clear hb1 hh1
  go_wp2_with fail
  refine (checkHeads_any (unhide HH1) (Nat.le_refl _) (fun c hc => ((unhide HF).wf.kid (cls_mem hc).1).here.2.2) (unhide HN1) (unhide HCL) (unhide HLL) (unhide HWK)).mono ?_
  rintro e W2 ⟨hb2, hor⟩
  have HB2 := hide ((unhide HB1).trans (hb2.mono (unhide HB1).size))
  have HH2 := hide ((unhide HH1).keep (w' := W2) fun k hk => hb2.block k hk)
  have HN2 := hide (node_keep (unhide HN1) (w' := W2) fun k hk => hb2.block k hk)
  have HS2 := hide hb2.size
  clear hb2 HH1 HN1
  rcases hor with ⟨hr, rfl⟩ | ⟨hr, tt, pp, rfl⟩
  · have hok := (headsRun_ok t.kids).1 hr
    have hend := end_of hok.1 hok.2.2
    have HOK := hide hok
    have HEND := hide hend
    clear hr hok hend
    go_wp2_with fail
    refine (table_any (unhide HH2) (unhide HS2) (fun c hc => (unhide HF).wf.kid (cls_mem hc).1) (fun c hc => by have := ((unhide HF).kid (cls_mem hc).1).long; omega) (unhide HEND).2 (unhide HCL)).mono ?_
    rintro e W3 ⟨hb3, hor3⟩
    have HB3 := hide ((unhide HB2).trans (hb3.mono (unhide HB2).size))
    have HN3 := hide (NodeAt.mono (node_keep (unhide HN2) (w' := W3) fun k hk => hb3.block k (Nat.lt_of_lt_of_le hk (unhide HS2))) (A' := fun k => k < W3.heap.size) fun k hk => Nat.lt_of_lt_of_le hk (Nat.le_trans (unhide HS2) hb3.size))
    clear hb3 HN2 HH2
    rcases hor3 with ⟨ht3, tp, vc, vf, rfl, htab⟩ | ⟨ht3, tt, pp, rfl⟩
    · have HTOK := hide ht3
      have HTAB := hide htab
      obtain ⟨ks, hv⟩ := node_view (unhide HN3)
      have c5 := hv.c5
      have HKL := hide hv.kids
      obtain ⟨kg, kcap, rfl, _, _⟩ := hv.kids
      have HBL := hide hv.lt
      clear ht3 htab hv
      have entO : ∀ X : World, (callFunc 14 #[.pointer (some ⟨tp, 0, none⟩)]).run Tryz.prog X = .ok (.enter 14 #[.pointer (some ⟨tp, 0, none⟩)]) X := fun X => enters_of Tryz.func14 (by kernel_rfl) rfl _ X
      go_wp2_with fail
      refine wp_region_held_drew (S := fun w' => w'.cell? ⟨b, 5, none⟩ = some (.slice kg t.kids.length kcap)) (by kernel_rfl) c5 (fun hHeld => ?_)
      refine wpAnyH_take (i := 0) (oi := { dst := some 28, op := _, type := _, pos := _, after := _, guard := _ }) (v := ?_) rfl (by kernel_rfl) (by kernel_rfl) (by kernel_rfl) (fun _ _ _ h => h) (Or.inl ⟨by rfl, ?_⟩) (by assumption) ?_
      case refine_2 =>
        intro w hSw
        try dsimp only at hSw
        go_simp
        try with_reducible rfl
      simp only [Act.put, List.setIfInBounds_toArray, List.set_cons_zero, List.set_cons_succ]
      refine wpAnyH_take (i := 2) (oi := { dst := some 30, op := _, type := _, pos := _, after := _, guard := _ }) (v := ?_) rfl (by kernel_rfl) (by kernel_rfl) (by kernel_rfl) (fun _ _ _ h => h) (Or.inl ⟨by rfl, ?_⟩) (by assumption) ?_
      case refine_2 =>
        intro w hSw
        try dsimp only at hSw
        go_simp
        try with_reducible rfl
      simp only [Act.put, List.setIfInBounds_toArray, List.set_cons_zero, List.set_cons_succ]
      refine wpAnyH_take (i := 3) (oi := { dst := some 31, op := _, type := _, pos := _, after := _, guard := _ }) (v := ?_) rfl (by kernel_rfl) (by kernel_rfl) (by kernel_rfl) (fun _ _ _ h => h) (Or.inl ⟨by rfl, ?_⟩) (by assumption) ?_
      case refine_2 =>
        intro w hSw
        try dsimp only at hSw
        go_simp
        try with_reducible rfl
      simp only [Act.put, List.setIfInBounds_toArray, List.set_cons_zero, List.set_cons_succ]
      refine wpAnyH_take (i := 4) (oi := { dst := some 32, op := _, type := _, pos := _, after := _, guard := _ }) (v := ?_) rfl (by kernel_rfl) (by kernel_rfl) (by kernel_rfl) (fun _ _ _ h => h) (Or.inl ⟨by rfl, ?_⟩) (by assumption) ?_
      case refine_2 =>
        intro w hSw
        try dsimp only at hSw
        go_simp
        try with_reducible rfl
      simp only [Act.put, List.setIfInBounds_toArray, List.set_cons_zero, List.set_cons_succ]
      refine wpAnyH_take (i := 5) (oi := { dst := some 33, op := _, type := _, pos := _, after := _, guard := _ }) (v := ?_) rfl (by kernel_rfl) (by kernel_rfl) (by kernel_rfl) (fun _ _ _ h => h) (Or.inl ⟨by rfl, ?_⟩) (by assumption) ?_
      case refine_2 =>
        intro w hSw
        try dsimp only at hSw
        go_simp
        try with_reducible rfl
      simp only [Act.put, List.setIfInBounds_toArray, List.set_cons_zero, List.set_cons_succ]
      refine wpAnyH_ready (rs := [1]) (by kernel_rfl) (by simp) ?_
      refine AllReadyH.cons (o := { dst := some 29, op := _, type := _, pos := _, after := _, guard := _ }) rfl (fun K hK => ?_) AllReadyH.nil
      refine step_enterG (by kernel_rfl) (by simp [Act.eval, entO, go_sem]) ((outerPlace_any (M := W3.heap.size) ((unhide HTAB).keep (w' := W3.drew) fun _ _ => rfl) (Nat.le_refl _)).mono ?_)
      rintro e W4 ⟨sp, sb, N, rfl, hpl, hsb, hb4⟩
      have HB4 := hide ((Below.drew (Below.refl W3.heap.size W3)).trans hb4)
      have d5 := cellB (unhide HB4) c5 (cell_ltK c5)
      have HPL := hide hpl
      have HSB := hide hsb
      clear hpl hsb hb4
      refine hK.out _ _ d5 (fun hHeld1 => ?_)
      clear hK K
      simp only [Act.put, List.setIfInBounds_toArray, List.set_cons_zero, List.set_cons_succ]
      have hno := node_any (M := W3.heap.size) (tp := tp) (T := ⟨classesOf t.kids, fnsOf t.kids⟩) (vc := vc) (vf := vf) (fun c hc => (unhide HF).wf.kid (cls_mem hc).1) (fun g hg => by obtain ⟨p, q, h⟩ := ((unhide HF).wf.kid (fns_mem hg).1).here.1.1 (Or.inr (Or.inl (fns_mem hg).2)); exact ⟨p, _, h⟩) 3001 none false (fun i hi => by cases hi)
      have hc0 := all_any (hide hno) (unhide HPL) ((unhide HKL).keep (w' := W4) fun k hk => (unhide HB4).block k hk) (fun k hk => ⟨Lowt.of_many 3001 k ((unhide HF).kid hk).many, (unhide HF).wf.kid hk⟩) (show ownN [[]] + manyL t.kids ≤ 1000000 by have := (unhide HF).many; have := many_kids t; show 0 + _ ≤ _; omega)
      unfold plV at hc0
      have hcv : clsV none = -1 := rfl
      rw [hcv] at hc0
      unfold plV
      rw [hcv]
      have entA : ∀ (v : Value) (X : World), (callFunc 15 #[.agg #[.pointer (some ⟨tp, 0, none⟩), .pointer (some ⟨sp, 0, none⟩), .int .i64 (-1), .bool false], v]).run Tryz.prog X = .ok (.enter 15 #[.agg #[.pointer (some ⟨tp, 0, none⟩), .pointer (some ⟨sp, 0, none⟩), .int .i64 (-1), .bool false], v]) X := fun v X => enters_of Tryz.func15 (by kernel_rfl) rfl _ X
      clear hno hcv
      refine wpAnyH_ready (rs := [6]) (by kernel_rfl) (by simp) ?_
      refine AllReadyH.cons (o := { dst := some 34, op := _, type := _, pos := _, after := _, guard := _ }) rfl (fun K hK => ?_) AllReadyH.nil
      refine step_enterG (by kernel_rfl) (by simp [Act.eval, entA, go_sem]) (hc0.mono ?_)
      clear hc0
      rintro e W5 ⟨hg5, env5, hs5, hle5, hor5⟩
      have hbk : ∀ k, k < W3.heap.size → W5.heap[k]? = W3.heap[k]? := fun k hk => (hg5.block k (Nat.lt_of_lt_of_le hk (unhide HB4).size) (fun q => by have := Option.some.inj q; have := unhide HSB; have : W3.drew.heap.size = W3.heap.size := rfl; omega)).trans ((unhide HB4).block k hk)
      have e5 := (World.cell?_of_block (a := ⟨b, 5, none⟩) (hbk b (unhide HBL))).trans c5
      have HTB5 := hide ((unhide HTAB).keep (w' := W5) hbk)
      have HB5 := hide (show Below w.heap.size w W5 from ⟨hg5.os.trans ((unhide HB4).os.trans (unhide HB3).os), hg5.tape.trans ((unhide HB4).tape.trans (unhide HB3).tape), hg5.output.trans ((unhide HB4).output.trans (unhide HB3).output), Nat.le_trans (unhide HB3).size (Nat.le_trans (unhide HB4).size hg5.size), fun k hk => (hbk k (Nat.lt_of_lt_of_le hk (unhide HB3).size)).trans ((unhide HB3).block k hk)⟩)
      have HSZ5 := hide (Nat.le_trans (unhide HB4).size hg5.size)
      clear hg5 hs5 hle5 hbk
      rcases hor5 with ⟨hr5, rfl⟩ | ⟨hr5, tt, pp, rfl⟩
      · refine hK.out _ _ e5 (fun hHeld6 => ?_)
        clear hK K
        simp only [Act.put, List.setIfInBounds_toArray, List.set_cons_zero, List.set_cons_succ]
        have HFIN := hide (show checkOk 3001 t.kids from ⟨unhide HOK, unhide HTOK, by unfold tabOf; rw [hr5]; rfl⟩)
        clear hr5
        refine wpAnyH_take (i := 7) (oi := { dst := some 8, op := _, type := _, pos := _, after := _, guard := _ }) (v := ?_) rfl (by kernel_rfl) (by kernel_rfl) (by kernel_rfl) (fun _ _ _ h => h) (Or.inl ⟨by rfl, ?_⟩) (by assumption) ?_
        case refine_2 =>
          intro w hSw
          try dsimp only at hSw
          go_simp
          try with_reducible rfl
        simp only [Act.put, List.setIfInBounds_toArray, List.set_cons_zero, List.set_cons_succ]
        refine wpAnyH_done (by kernel_rfl) ?_ _
        clear hHeld hHeld1 hHeld6
        go_wp2_with fail
        go_ret2
        exact ⟨unhide HB5, Or.inl ⟨unhide HFIN, W3.heap.size, tp, vc, vf, unhide HSZ5, rfl, unhide HTB5⟩⟩
      · refine hK.out _ _ e5 (fun hHeld6 => ?_)
        clear hK K
        simp only [Act.put, List.setIfInBounds_toArray, List.set_cons_zero, List.set_cons_succ]
        have HFIN := hide (show ¬ checkOk 3001 t.kids from fun q => by have := q.2.2; unfold tabOf at this; rw [hr5] at this; cases this)
        clear hr5
        refine wpAnyH_take (i := 7) (oi := { dst := some 8, op := _, type := _, pos := _, after := _, guard := _ }) (v := ?_) rfl (by kernel_rfl) (by kernel_rfl) (by kernel_rfl) (fun _ _ _ h => h) (Or.inl ⟨by rfl, ?_⟩) (by assumption) ?_
        case refine_2 =>
          intro w hSw
          try dsimp only at hSw
          go_simp
          try with_reducible rfl
        simp only [Act.put, List.setIfInBounds_toArray, List.set_cons_zero, List.set_cons_succ]
        refine wpAnyH_done (by kernel_rfl) ?_ _
        clear hHeld hHeld1 hHeld6
        go_wp2_with fail
        go_ret2
        exact ⟨unhide HB5, Or.inr ⟨unhide HFIN, _, _, rfl⟩⟩
    · have HFIN := hide (show ¬ checkOk 3001 t.kids from fun q => ht3 q.2.1)
      clear ht3
      go_wp2_with fail
      go_ret2
      exact ⟨unhide HB3, Or.inr ⟨unhide HFIN, _, _, rfl⟩⟩
  · have HFIN := hide (show ¬ checkOk 3001 t.kids from fun q => by
      have := (headsRun_ok t.kids).2 q.1
      rw [hr] at this
      cases this)
    clear hr
    go_wp2_with fail
    go_ret2
    exact ⟨unhide HB2, Or.inr ⟨unhide HFIN, _, _, rfl⟩⟩
end Go.Proofs.YtjcoobkpmpjpbaaGreatDoor
