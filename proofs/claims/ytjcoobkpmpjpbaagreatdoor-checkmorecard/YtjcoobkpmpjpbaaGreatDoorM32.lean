/-
  The way up from a class, gone through from the topmost one down.
-/
import Derived.Test.YtjcoobkpmpjpbaaGreatDoorM31
import Derived.RangeFuncNested
import Derived.RangeFuncBound
import Derived.RangeFuncCalls
import Derived.RangeFuncLeaves
import Derived.RangeFuncBox
import Derived.Shelf.Abstract
import Derived.Shelf.RegionOpen
import Derived.OwnWalkIn
import Derived.TacticsInMore
import Derived.LoopNIn
import Derived.LoopIn
import Derived.Sort.LoopGhostIn
import Derived.Maps.AppendAt
namespace Go.Proofs.YtjcoobkpmpjpbaaGreatDoor
open Go.RowKit Go.Maps Go.Shelf
set_option linter.unusedVariables false
attribute [local go_sem] Oper.semAt_some

theorem infoInt : (Tryz.prog.info? 3).map (fun i => (i.zero, i.size, i.bytes)) = some (some (.int .i64 0), 1, 8) := by kernel_rfl
/-- Rows of numbers lie as they lay. -/
def KInt (W W' : World) : Prop := ∀ (k : Nat) (cs : Array Value) (fr : Nat × Nat), W.heap[k]? = some (.cells cs 3 fr) → W'.heap[k]? = some (.cells cs 3 fr)
theorem KInt.refl (W : World) : KInt W W := fun _ _ _ h => h
theorem KInt.trans {A B C : World} (h : KInt A B) (k : KInt B C) : KInt A C := fun j cs fr q => k j cs fr (h j cs fr q)
theorem kint_b {w : World} (W : World) (l : Nat) (o o' : Obj) (_ : w.heap.size ≤ l) (h : W.heap[l]? = some o) (hc : o.isCells = false) (_ : o.isWalk = false) : KInt W (W.putObj l o') := fun k cs fr q => by
  have hne : k ≠ l := fun e => by
    subst e
    rw [h] at q
    cases q
    cases hc
  exact (World.putObj_heap_other hne).trans q
/-- A block turned that is no row of numbers. -/
theorem KInt.of_grown {W W' : World} {row : Option Nat} (hg : W.grownBy W' row) (h : ∀ k cs fr, row = some k → W.heap[k]? ≠ some (.cells cs 3 fr)) : KInt W W' := fun k cs fr q =>
  (hg.block k (Array.getElem?_eq_some_iff.1 q).1 (fun e => h k cs fr e.symm q)).trans q
theorem owns_formK {w : World} {B : Nat} {e : TypeId} {s : Nat} {v : Value} {n : Nat} {xs : List Value} (h : w.ownsRow B e s v n xs) : ∃ a cap, v = .slice a n cap := by
  rcases h.2 with ⟨q1, q2⟩ | ⟨g, cap, cur, q1, _⟩
  · exact ⟨none, 0, by rw [q1, q2]⟩
  · exact ⟨_, _, q1⟩
def intV (k : Nat) : Value := .int .i64 (k : Int)
theorem owns_at {w : World} {B : Nat} {a : Option Addr} {ca : Nat} {d : List Nat} (h : w.ownsRow B 3 1 (.slice a d.length ca) d.length (d.map intV)) {k : Nat} (hk : k < d.length) : ∃ g, a = some ⟨g, 0, none⟩ ∧ w.cell? ⟨g, k, none⟩ = some (intV d[k]) := by
  rcases h.2 with ⟨q1, q2⟩ | ⟨g, cap, cur, q1, q2, q3, q4, q5, q6, q7⟩
  · omega
  · injection q1 with e1 _ _
    refine ⟨g, e1, ?_⟩
    rw [hcell q3 k, ← Array.getElem?_toList]
    have : (cur.toList.take (d.length * 1))[k]? = (d.map intV)[k]? := by rw [q7]
    rw [List.getElem?_take_of_lt (by omega)] at this
    rw [this, List.getElem?_map, List.getElem?_eq_getElem hk]
    rfl
theorem owns_far {w : World} {B : Nat} {e : TypeId} {s : Nat} {v : Value} {n : Nat} {xs : List Value} (h : w.ownsRow B e s v n xs) {k : Nat} (hk : v.ownBlock = some k) : B ≤ k := by
  rcases h.2 with ⟨q1, q2⟩ | ⟨g, cap, cur, q1, q2, _⟩
  · rw [q1] at hk
    cases hk
  · rw [q1] at hk
    simp only [Value.ownBlock, Option.some.injEq] at hk
    omega
theorem owns_below {w w' : World} {B : Nat} {e : TypeId} {s : Nat} {v : Value} {n : Nat} {xs : List Value} (h : w.ownsRow B e s v n xs) (hb : Below w.heap.size w w') : w'.ownsRow B e s v n xs := by
  refine ⟨h.1, ?_⟩
  rcases h.2 with q | ⟨g, cap, cur, q1, q2, q3, q4⟩
  · exact Or.inl q
  · exact Or.inr ⟨g, cap, cur, q1, q2, (hb.block g (Array.getElem?_eq_some_iff.1 q3).1).trans q3, q4⟩
theorem owns_kint {w w' : World} {B : Nat} {v : Value} {n : Nat} {xs : List Value} (h : w.ownsRow B 3 1 v n xs) (hk : KInt w w') : w'.ownsRow B 3 1 v n xs := by
  refine ⟨h.1, ?_⟩
  rcases h.2 with q | ⟨g, cap, cur, q1, q2, q3, q4⟩
  · exact Or.inl q
  · exact Or.inr ⟨g, cap, cur, q1, q2, hk _ _ _ q3, q4⟩
theorem way_lt {cs : List Tree} : ∀ {f : Nat} {o : Option Nat} {k : Nat}, ClsOk cs o → k ∈ wayUp cs f o → k < cs.length
  | 0, _, _, _, h => by cases h
  | _ + 1, none, _, _, h => by cases h
  | f + 1, some i, k, ho, h => by
    rw [wayUp] at h
    rcases List.mem_cons.1 h with rfl | h
    · obtain ⟨c, hc⟩ := ho k rfl
      exact (List.getElem?_eq_some_iff.1 hc).1
    · exact way_lt (fun j hj => above_lt hj) h

set_option maxRecDepth 100000 in
set_option maxHeartbeats 8000000 in
/-- All classes on the way come, or as many as are asked for. -/
theorem down1_any {M : Nat} {w : World} {hp nb cb hb : Nat} {vcl vfn : Value} {cs fns : List Tree} (h : HdAt M w hp nb vcl vfn cs fns) (hM : M ≤ w.heap.size) (hws : ∀ c ∈ cs, c.under.size ≤ 300) (he : EndOk cs) (hcl : cs.length ≤ 1000000) {i : Nat} (hi : i < cs.length) (hcb : w.cell? ⟨cb, 0, none⟩ = some (.int .i64 (i : Int))) (hhb : w.cell? ⟨hb, 0, none⟩ = some (.pointer (some ⟨hp, 0, none⟩))) (n : Nat) :
    SeqStopsK Fence.wide n Tryz.prog 69 #[.pointer (some ⟨cb, 0, none⟩), .pointer (some ⟨hb, 0, none⟩)] (fun x : Fin cs.length => #[intV x.val]) KInt (fun xs => xs.map Fin.val = (wayUp cs cs.length (some i)).reverse) (fun pre => pre.map Fin.val <+: (wayUp cs cs.length (some i)).reverse) cs.length w := by
  intro l J Jx W hW hJ hJx hY h0
  have HW := hide hW
  have HJ := hide hJ
  have HY := hide hY
  have H0 := hide h0
  have HH := hide (h.keep fun k hk => hW.block k (Nat.lt_of_lt_of_le hk hM))
  have c1 := (hW.cell (p := ⟨cb, 0, none⟩) (cell_ltK hcb)).trans hcb
  have c2 := (hW.cell (p := ⟨hb, 0, none⟩) (cell_ltK hhb)).trans hhb
  have HMW := hide (Nat.le_trans hM hW.size)
  have HWS := hide hws
  have HE := hide he
  have HCL := hide hcl
  have HI := hide hi
  obtain ⟨i0, hi0, hz0, hz1, hz2⟩ := info_parts infoInt
  clear hW hJ hJx hY h0 h hM hws he hcl hi hcb hhb
  refine callsIn_of_wp Tryz.func69 rfl trivial ?_ rfl
  simp only [Tryz.ntmps69, List.size_toArray, List.length_cons, List.length_nil, Nat.reduceAdd, Nat.reduceSub, Array.replicate_succ, Array.replicate_zero, List.push_toArray, List.append_toArray, List.nil_append, List.cons_append]
  gi_wp2
  gi_loopg [4, 5] (wayUp cs cs.length (some i)).length (fun gg wv av wr => ∃ (o : Option Nat) (d : List Nat), av = .int .i64 (clsV o) ∧ gg = (wayUp cs cs.length o).length ∧ Hid (wr.ownsRow W.heap.size 3 1 wv d.length (d.map intV)) ∧ Hid (d ++ wayUp cs cs.length o = wayUp cs cs.length (some i)) ∧ Hid (Below W.heap.size W wr) ∧ Hid (ClsOk cs o))
  case atStart => exact ⟨some i, [], rfl, rfl, World.ownsRow_nil _ _ _ _, rfl, Below.refl _ _, fun k hk => by cases hk; exact ⟨_, List.getElem?_eq_getElem (unhide HI)⟩⟩
  case round =>
    obtain ⟨o, d, rfl, rfl, HR, HD, HB, HC⟩ := hrel
    obtain ⟨ga, ca, rfl⟩ := owns_formK (unhide HR)
    cases o with
    | none =>
      have HD2 := hide (show d = wayUp cs cs.length (some i) by rw [← unhide HD, way_none, List.append_nil])
      have HDL := hide (show d.length ≤ cs.length by rw [unhide HD2]; exact way_short cs _ _)
      have hcv : clsV none = -1 := rfl
      rw [hcv]
      have HJ0 := hide (unhide HJ [] W wr none (unhide H0) ⟨(unhide HB).os, (unhide HB).tape, (unhide HB).output, (unhide HB).size, fun k hk _ => (unhide HB).block k hk⟩ (fun r e => by cases e))
      have hdl : d.length ≤ 1000000 := Nat.le_trans (unhide HDL) (unhide HCL)
      clear hcv HD HC c1 c2
      gi_wp2
      gi_loopg [6] d.length (fun gg iv wr2 => ∃ (k : Nat) (pre : List (Fin cs.length)), k ≤ d.length ∧ gg = k ∧ iv = .int .i64 ((k : Int) - 1) ∧ Hid (J pre wr2) ∧ Hid (wr2.ownsRow W.heap.size 3 1 (.slice ga d.length ca) d.length (d.map intV)) ∧ Hid (pre.map Fin.val = (d.drop k).reverse))
      case atStart => exact ⟨d.length, [], Nat.le_refl _, rfl, by go_num, HJ0, HR, by show _ = _; simp⟩
      case round =>
        obtain ⟨k, pre, hk, rfl, rfl, HJ1, HR1, HP1⟩ := hrel
        cases gk with
        | zero =>
          have hz : ((0 : Nat) : Int) - 1 = -1 := rfl
          rw [hz]
          clear hz
          gi_wp2
          go_end0
          exact ⟨⟨_, rfl⟩, .inl ⟨pre, by rw [unhide HP1, List.drop_zero, unhide HD2], unhide HJ1⟩⟩
        | succ k =>
          have hz : ((k + 1 : Nat) : Int) - 1 = (k : Int) := by omega
          rw [hz]
          have hge : (0 : Int) ≤ (k : Int) := by omega
          have hkl : (k : Int) < (d.length : Int) := by omega
          obtain ⟨g, rfl, hgc⟩ := owns_at (unhide HR1) (by omega : k < d.length)
          have hdk : d[k]? = some d[k] := List.getElem?_eq_getElem (by omega)
          have hx : d[k] < cs.length := way_lt (f := cs.length) (o := some i) (by intro j e; cases e; exact ⟨_, List.getElem?_eq_getElem (unhide HI)⟩) (by rw [← unhide HD2]; exact List.getElem_mem _)
          have hpl : pre.length = d.length - (k + 1) := by
            have := congrArg List.length (unhide HP1)
            simpa using this
          obtain ⟨fn, tmps, assign, body, hy, hR⟩ := unhide HY pre ⟨d[k], hx⟩ wr (unhide HJ1) (by have := unhide HDL; omega)
          have HPX := hide (show (pre ++ [(⟨d[k], hx⟩ : Fin cs.length)]).map Fin.val = (d.drop k).reverse by
            rw [List.map_append, unhide HP1, List.drop_eq_getElem_cons (show k < d.length by omega), List.reverse_cons]
            rfl)
          dsimp only at hy
          unfold intV at hy hgc
          clear hz hdk hpl
          gi_wp2
          refine ⟨fun h => absurd h (by decide), hR.mono ?_⟩
          rintro e W3 (⟨rfl, hJ3, hk3⟩ | ⟨rfl, hJx3⟩)
          · have HR3 := hide (owns_kint (unhide HR1) hk3)
            have HJ3 := hide hJ3
            clear hJ3 hk3 hR hy
            gi_wp2
            gi_roundg k
            case measure => omega
            case rel => exact ⟨k, _, by omega, rfl, by go_num, HJ3, HR3, HPX⟩
          · have HJX := hide hJx3
            clear hJx3 hR hy
            gi_wp2
            refine bodyPost_ret (results_none rfl _ _ _) rfl ?_
            refine ⟨⟨_, rfl⟩, .inr ⟨_, ?_, unhide HJX⟩⟩
            rw [unhide HPX, ← unhide HD2]
            exact List.reverse_prefix.2 (List.drop_suffix k d)
    | some j =>
      obtain ⟨c, hc⟩ := unhide HC j rfl
      have hcv : clsV (some j) = (j : Int) := rfl
      rw [hcv]
      have hne : ¬ ((j : Int) = -1) := by omega
      have HHC := hide hc
      have HST := hide (way_step (unhide HE) hc)
      have HDN := hide (show d.length + 1 ≤ cs.length by
        have := congrArg List.length (unhide HD)
        rw [List.length_append, unhide HST, List.length_cons] at this
        have := way_short cs cs.length (some i)
        omega)
      have HRA := hide ((unhide HR).alloc (.cells #[.int .i64 (j : Int)] 3))
      have HBA := hide ((unhide HB).alloc (unhide HB).size (.cells #[.int .i64 (j : Int)] 3))
      clear hcv hc
      gi_wp2_with (gi_at_builtin; refine wpListIn_append_own _ rfl _ _ 133 rfl W.heap.size 3 i0 (.int .i64 0) 1 8 Tryz.underlying133 hi0 hz0 hz1 hz2 rfl (by decide) _ _ _ rfl (unhide HRA) ⟨wr.heap.size, 0, none⟩ 1 1 [.int .i64 (j : Int)] rfl rfl (cell_one_new _ _ _) (by simp [Value.oneCell']) (by have := unhide HDN; have := unhide HCL; unfold maxLen; omega) (by have := unhide HDN; have := unhide HCL; omega) (by have := (unhide HBA).size; omega) ?_; intro v' w1 hown' hgrow _; obtain ⟨g', cap', rfl⟩ := ownsRow_succ hown'; have HB2 := hide ((unhide HBA).grown hgrow (unhide HBA).size (fun k hk => owns_far (unhide HRA) hk)); have e2 := (World.cell?_of_block (a := ⟨hb, 0, none⟩) ((unhide HB2).block hb (cell_ltK c2))).trans c2)
      have HR2 := hide (show w1.ownsRow W.heap.size 3 1 (.slice (some ⟨g', 0, none⟩) (d.length + 1) cap') (d ++ [j]).length ((d ++ [j]).map intV) by
        rw [List.length_append, List.map_append]
        exact hown')
      have HH2 := hide ((unhide HH).keep (w' := w1) fun k hk => (unhide HB2).block k (Nat.lt_of_lt_of_le hk (unhide HMW)))
      clear hown' hgrow
      refine ⟨trivial, fun h => absurd h (by decide), (callsIn_wide.2 (above_any (unhide HH2) (unhide HHC) (unhide HWS c (List.mem_of_getElem? (unhide HHC))))).mono ?_⟩
      rintro e w2 ⟨rfl, hb2⟩
      have HR3 := hide (owns_below (unhide HR2) hb2)
      have HB3 := hide ((unhide HB2).trans (hb2.mono (unhide HB2).size))
      clear hb2 e2
      gi_wp2
      gi_roundg (wayUp cs cs.length (numF cs c.under)).length
      case measure => rw [unhide HST, List.length_cons]; omega
      case rel =>
        refine ⟨numF cs c.under, d ++ [j], rfl, rfl, HR3, ?_, HB3, ?_⟩
        · show _ = _
          rw [← unhide HD, unhide HST, List.append_assoc]
          rfl
        · intro k hk
          obtain ⟨c', h1, _⟩ := numF_some hk
          exact ⟨c', h1⟩
end Go.Proofs.YtjcoobkpmpjpbaaGreatDoor
