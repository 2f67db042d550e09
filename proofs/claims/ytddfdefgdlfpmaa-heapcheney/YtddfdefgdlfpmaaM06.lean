/-
  A heap is made; cells, addresses.
  The first object is laid.
-/
import Derived.Test.YtddfdefgdlfpmaaM05
import Derived.Maps.OwnSet
import Derived.Maps.OwnOps
namespace Go.Proofs.Ytddfdefgdlfpmaa
open Go.RowKit Go.Maps

theorem keyInt : Keyed Try.prog 3 := int_keyed Try.underlying3
def k1 : Lit := .int .i64 1
theorem k1_wf : (Lit.int .i64 1).wf = true := by decide
theorem k1_key : keyOf Try.prog 3 (.int .i64 1) = some k1 := keyOf_int_mk Try.underlying3 k1_wf
/-- A map of numbers. -/
def MapIs (w : World) (b n : Nat) : Prop := ∃ D : DataW Unit, w.ownsMap Try.prog 3 (plainElem Try.prog 3) b n D
theorem MapIs.keep {w w' : World} {b n : Nat} (h : MapIs w b n) (hb : w'.heap[b]? = w.heap[b]?) : MapIs w' b n := by
  obtain ⟨D, es, clock, h1, h2⟩ := h
  exact ⟨D, es, clock, hb.trans h1, h2⟩
theorem MapIs.lt {w : World} {b n : Nat} (h : MapIs w b n) : b < w.heap.size := by
  obtain ⟨D, h1⟩ := h
  exact h1.lt
theorem MapIs.put {w : World} {b n : Nat} (h : MapIs w b n) (hn : n ≤ 100000) :
    ∃ w', (Go.Instr.mapUpdate 49 (.map (some b)) (.int .i64 1) (.int .i64 1)).run Try.prog w = .ok () w' ∧ w.grownBy w' (some b) := by
  obtain ⟨D, h1⟩ := h
  obtain ⟨w', hrun, _, hg⟩ := h1.update keyInt Try.underlying49 (by unfold maxLen; omega) k1_key (plainElem_int Try.underlying3 k1_wf)
  exact ⟨w', hrun, hg⟩
theorem MapIs.made (w : World) : MapIs (w.alloc (.map #[] 0)) w.heap.size 0 := ⟨_, World.ownsMap_made w _ _ _⟩

theorem hnew' (w : World) (o : Obj) {n : Nat} (hn : w.heap.size = n) : (w.alloc o).heap[n]? = some o := by
  rw [← hn]; exact hnew w o
/-- A new heap. -/
def NewPost (w : World) (e : Ending) (w' : World) : Prop := ∃ h mb, e = .returned (.tuple #[.pointer (some ⟨h, 0, none⟩), .nilIface]) ∧ Below w.heap.size w w' ∧ Hp w' h mb (.slice none 0 0) (.slice none 0 0) 0 ∧ MapIs w' mb 0 ∧ w.heap.size ≤ h ∧ w.heap.size ≤ mb ∧ h ≠ mb
set_option maxRecDepth 100000 in
set_option maxHeartbeats 2000000 in
theorem new_any (w : World) : Calls Try.prog 4 #[.int .i64 10, .int .i64 10] w fun e w' => NewPost w e w' := by
  have mm : (Go.Instr.makeMap 49 none).run Try.prog w = .ok (.map (some w.heap.size)) (w.alloc (.map #[] 0)) := rfl
  go_enter Try.func4, Try.ntmps4
  go_wp2_with fail
  go_ret2
  exact ⟨_, w.heap.size, rfl, ((Below.refl _ _).alloc (Nat.le_refl _) _).alloc (by simp) _, ⟨hnew' _ _ (by simp)⟩, (MapIs.made w).keep (Below.heap_alloc _ _ _ (by simp)), by simp, Nat.le_refl _, by simp⟩

set_option maxRecDepth 100000 in
set_option maxHeartbeats 2000000 in
theorem cells_empty {w : World} {h mb : Nat} {last : Int} (k : Hp w h mb (.slice none 0 0) (.slice none 0 0) last) :
    Calls Try.prog 17 #[.pointer (some ⟨h, 0, none⟩)] w fun e w' => e = .returned (.int .i64 0) ∧ Below w.heap.size w w' := by
  have c1 : w.cell? ⟨h, 1, none⟩ = some (.slice none 0 0) := hcell k.blk 1
  have c2 : w.cell? ⟨h, 2, none⟩ = some (.slice none 0 0) := hcell k.blk 2
  clear k
  go_enter Try.func17, Try.ntmps17
  go_wp2_with fail
  refine wp_region_held_drew (S := (fun w' => w'.cell? ⟨h, 1, none⟩ = some (.slice none 0 0) ∧ w'.cell? ⟨h, 2, none⟩ = some (.slice none 0 0))) (by kernel_rfl) ⟨c1, c2⟩ (fun hHeld => ?_)
  refine wpAnyH_take (i := 0) (oi := { dst := some 3, op := _, type := _, pos := _, after := _, guard := _ }) (v := ?_) rfl (by kernel_rfl) (by kernel_rfl) (by kernel_rfl) (fun _ _ _ h => h) (Or.inl ⟨by rfl, ?_⟩) (by assumption) ?_
  case refine_2 =>
    intro w hSw
    try dsimp only at hSw
    go_simp
    try with_reducible rfl
  simp only [Act.put, List.setIfInBounds_toArray, List.set_cons_zero, List.set_cons_succ]
  refine wpAnyH_take (i := 1) (oi := { dst := some 4, op := _, type := _, pos := _, after := _, guard := _ }) (v := ?_) rfl (by kernel_rfl) (by kernel_rfl) (by kernel_rfl) (fun _ _ _ h => h) (Or.inl ⟨by rfl, ?_⟩) (by assumption) ?_
  case refine_2 =>
    intro w hSw
    try dsimp only at hSw
    go_simp
    try with_reducible rfl
  simp only [Act.put, List.setIfInBounds_toArray, List.set_cons_zero, List.set_cons_succ]
  refine wpAnyH_take (i := 2) (oi := { dst := some 5, op := _, type := _, pos := _, after := _, guard := _ }) (v := ?_) rfl (by kernel_rfl) (by kernel_rfl) (by kernel_rfl) (fun _ _ _ h => h) (Or.inl ⟨by rfl, ?_⟩) (by assumption) ?_
  case refine_2 =>
    intro w hSw
    try dsimp only at hSw
    go_simp
    try with_reducible rfl
  simp only [Act.put, List.setIfInBounds_toArray, List.set_cons_zero, List.set_cons_succ]
  refine wpAnyH_take (i := 3) (oi := { dst := some 6, op := _, type := _, pos := _, after := _, guard := _ }) (v := ?_) rfl (by kernel_rfl) (by kernel_rfl) (by kernel_rfl) (fun _ _ _ h => h) (Or.inl ⟨by rfl, ?_⟩) (by assumption) ?_
  case refine_2 =>
    intro w hSw
    try dsimp only at hSw
    go_simp
    try with_reducible rfl
  simp only [Act.put, List.setIfInBounds_toArray, List.set_cons_zero, List.set_cons_succ]
  refine wpAnyH_take (i := 4) (oi := { dst := some 7, op := _, type := _, pos := _, after := _, guard := _ }) (v := ?_) rfl (by kernel_rfl) (by kernel_rfl) (by kernel_rfl) (fun _ _ _ h => h) (Or.inl ⟨by rfl, ?_⟩) (by assumption) ?_
  case refine_2 =>
    intro w hSw
    try dsimp only at hSw
    go_simp
    try with_reducible rfl
  simp only [Act.put, List.setIfInBounds_toArray, List.set_cons_zero, List.set_cons_succ]
  refine wpAnyH_take (i := 5) (oi := { dst := some 8, op := _, type := _, pos := _, after := _, guard := _ }) (v := ?_) rfl (by kernel_rfl) (by kernel_rfl) (by kernel_rfl) (fun _ _ _ h => h) (Or.inl ⟨by rfl, ?_⟩) (by assumption) ?_
  case refine_2 =>
    intro w hSw
    try dsimp only at hSw
    go_simp
    try with_reducible rfl
  simp only [Act.put, List.setIfInBounds_toArray, List.set_cons_zero, List.set_cons_succ]
  refine wpAnyH_take (i := 6) (oi := { dst := some 9, op := _, type := _, pos := _, after := _, guard := _ }) (v := ?_) rfl (by kernel_rfl) (by kernel_rfl) (by kernel_rfl) (fun _ _ _ h => h) (Or.inl ⟨by rfl, ?_⟩) (by assumption) ?_
  case refine_2 =>
    intro w hSw
    try dsimp only at hSw
    go_simp
    try with_reducible rfl
  simp only [Act.put, List.setIfInBounds_toArray, List.set_cons_zero, List.set_cons_succ]
  refine wpAnyH_take (i := 7) (oi := { dst := some 10, op := _, type := _, pos := _, after := _, guard := _ }) (v := ?_) rfl (by kernel_rfl) (by kernel_rfl) (by kernel_rfl) (fun _ _ _ h => h) (Or.inl ⟨by rfl, ?_⟩) (by assumption) ?_
  case refine_2 =>
    intro w hSw
    try dsimp only at hSw
    go_simp
    try with_reducible rfl
  simp only [Act.put, List.setIfInBounds_toArray, List.set_cons_zero, List.set_cons_succ]
  refine wpAnyH_take (i := 8) (oi := { dst := some 11, op := _, type := _, pos := _, after := _, guard := _ }) (v := ?_) rfl (by kernel_rfl) (by kernel_rfl) (by kernel_rfl) (fun _ _ _ h => h) (Or.inl ⟨by rfl, ?_⟩) (by assumption) ?_
  case refine_2 =>
    intro w hSw
    try dsimp only at hSw
    go_simp
    try with_reducible rfl
  simp only [Act.put, List.setIfInBounds_toArray, List.set_cons_zero, List.set_cons_succ]
  refine wpAnyH_take (i := 9) (oi := { dst := some 12, op := _, type := _, pos := _, after := _, guard := _ }) (v := ?_) rfl (by kernel_rfl) (by kernel_rfl) (by kernel_rfl) (fun _ _ _ h => h) (Or.inl ⟨by rfl, ?_⟩) (by assumption) ?_
  case refine_2 =>
    intro w hSw
    try dsimp only at hSw
    go_simp
    try with_reducible rfl
  simp only [Act.put, List.setIfInBounds_toArray, List.set_cons_zero, List.set_cons_succ]
  refine wpAnyH_take (i := 10) (oi := { dst := some 13, op := _, type := _, pos := _, after := _, guard := _ }) (v := ?_) rfl (by kernel_rfl) (by kernel_rfl) (by kernel_rfl) (fun _ _ _ h => h) (Or.inl ⟨by rfl, ?_⟩) (by assumption) ?_
  case refine_2 =>
    intro w hSw
    try dsimp only at hSw
    go_simp
    try with_reducible rfl
  simp only [Act.put, List.setIfInBounds_toArray, List.set_cons_zero, List.set_cons_succ]
  refine wpAnyH_take (i := 11) (oi := { dst := some 2, op := _, type := _, pos := _, after := _, guard := _ }) (v := ?_) rfl (by kernel_rfl) (by kernel_rfl) (by kernel_rfl) (fun _ _ _ h => h) (Or.inl ⟨by rfl, ?_⟩) (by assumption) ?_
  case refine_2 =>
    intro w hSw
    try dsimp only at hSw
    go_simp
    try with_reducible rfl
  simp only [Act.put, List.setIfInBounds_toArray, List.set_cons_zero, List.set_cons_succ]
  refine wpAnyH_done (by kernel_rfl) ?_ _
  go_wp2_with fail
  go_ret
  exact ⟨rfl, Below.drew (Below.refl _ _)⟩

set_option maxRecDepth 100000 in
set_option maxHeartbeats 2000000 in
theorem address_first {w : World} {h mb : Nat} {vo vf : Value} {last : Int} (k : Hp w h mb vo vf last) :
    Calls Try.prog 34 #[.pointer (some ⟨h, 0, none⟩), .int .i64 0] w fun e w' => e = .returned (.int .i64 1) ∧ w' = w := by
  have c0 : w.cell? ⟨h, 0, none⟩ = some (.int .i64 1) := hcell k.blk 0
  clear k
  go_enter Try.func34, Try.ntmps34
  go_wp2_with fail
  go_ret
  exact ⟨rfl, rfl⟩
end Go.Proofs.Ytddfdefgdlfpmaa

namespace Go.Proofs.Ytddfdefgdlfpmaa
open Go.RowKit

/-- What stays: all but the heap's own block. -/
structure Fr (h : Nat) (w w' : World) : Prop where
  os : w'.os = w.os
  tape : w'.tape = w.tape
  output : w'.output = w.output
  size : w.heap.size ≤ w'.heap.size
  block : ∀ k, k < w.heap.size → k ≠ h → w'.heap[k]? = w.heap[k]?
theorem Fr.trans {h : Nat} {a b c : World} (x : Fr h a b) (y : Fr h b c) : Fr h a c :=
  ⟨y.os.trans x.os, y.tape.trans x.tape, y.output.trans x.output, Nat.le_trans x.size y.size, fun k hk hn => (y.block k (Nat.lt_of_lt_of_le hk x.size) hn).trans (x.block k hk hn)⟩
theorem Fr.of_below {h : Nat} {a b : World} (x : Below a.heap.size a b) : Fr h a b := ⟨x.os, x.tape, x.output, x.size, fun k hk _ => x.block k hk⟩
theorem Fr.of_grown {h : Nat} {a b : World} (x : a.grownBy b none) : Fr h a b := ⟨x.os, x.tape, x.output, x.size, fun k hk _ => x.block k hk (by simp)⟩
theorem Fr.set {h : Nat} (a : World) (j : Nat) (v : Value) : Fr h a (a.setCell ⟨h, j, none⟩ v) := ⟨rfl, rfl, rfl, by simp [World.setCell], fun _ _ hn => hother v hn⟩
theorem Fr.below {h : Nat} {B : Nat} {a b : World} (x : Fr h a b) (h1 : B ≤ h) (h2 : B ≤ a.heap.size) : Below B a b := ⟨x.os, x.tape, x.output, x.size, fun k hk => x.block k (by omega) (by omega)⟩

theorem infoObj : (Try.prog.info? 56).map (fun i => (i.zero, i.size, i.bytes)) = some (some (.agg #[.int .i64 0, .int .i64 0, .int .i64 0, .int .i64 0, .int .i64 0, .bool false]), 6, 48) := by kernel_rfl
theorem infoVal : (Try.prog.info? 34).map (fun i => (i.zero, i.size, i.bytes)) = some (some (.agg #[.int .i64 0, .int .i64 0, .string ByteArray.empty]), 3, 32) := by kernel_rfl
theorem one_obj : ∀ u ∈ [Value.int .i64 2, .int .i64 7, .int .i64 1, .int .i64 0, .int .i64 2, .bool false], u.oneCell' = true := fun u hu => by
  simp at hu
  rcases hu with rfl | rfl | rfl | rfl | rfl | rfl <;> rfl
theorem one_val : ∀ u ∈ [Value.int .i64 0, .int .i64 0, .string ⟨#[]⟩, .int .i64 0, .int .i64 0, .string ⟨#[]⟩], u.oneCell' = true := fun u hu => by
  simp at hu
  rcases hu with rfl | rfl | rfl | rfl <;> rfl
theorem cur_get {cur : Array Value} {n : Nat} {l : List Value} (h : cur.toList.take n = l) {j : Nat} (hj : j < n) : cur[j]? = l[j]? := by
  rw [← h, List.getElem?_take_of_lt hj]
  simp
def AddPost (w : World) (h mb : Nat) (last : Int) (e : Ending) (w' : World) : Prop := e = .returned (.int .i64 1) ∧ Fr h w w' ∧ ∃ og co fg cf, Hp w' h mb (sv og co 1) (sv fg cf 2) last ∧ Ob w' og co fg cf 0 0 ∧ w.heap.size ≤ og ∧ w.heap.size ≤ fg

set_option maxRecDepth 100000 in
set_option maxHeartbeats 4000000 in
theorem add_first {w : World} {h mb mg : Nat} {last : Int} (k : Hp w h mb (.slice none 0 0) (.slice none 0 0) last) (hm : w.heap[mg]? = some (.cells #[.int .i64 0, .int .i64 0, .string ⟨#[]⟩, .int .i64 0, .int .i64 0, .string ⟨#[]⟩] 34 (0, 0))) (hne : mg ≠ h) :
    Calls Try.prog 18 #[.pointer (some ⟨h, 0, none⟩), .agg #[.int .i64 2, .int .i64 7, .int .i64 1, .int .i64 0, .int .i64 2, .bool false], .slice (some ⟨mg, 0, none⟩) 2 2] w fun e w' => AddPost w h mb last e w' := by
  have K := hide k
  have HM := hide hm
  have c1 : w.cell? ⟨h, 1, none⟩ = some (.slice none 0 0) := hcell k.blk 1
  have c2 : w.cell? ⟨h, 2, none⟩ = some (.slice none 0 0) := hcell k.blk 2
  have f1 := hfroz k.blk 1
  have hhl := hlt k.blk
  obtain ⟨i0, hi, hz0, hz1, hz2⟩ := info_parts infoObj
  obtain ⟨i1, hi1, hy0, hy1, hy2⟩ := info_parts infoVal
  clear k hm
  go_enter Try.func18, Try.ntmps18
  go_wp2_with fail
  have HW0 := hide (hnew w (.cells #[.int .i64 2, .int .i64 7, .int .i64 1, .int .i64 0, .int .i64 2, .bool false] 56))
  have K1 := hide ((unhide K).keep ((Below.refl _ _).alloc (Nat.le_refl _) (.cells #[.int .i64 2, .int .i64 7, .int .i64 1, .int .i64 0, .int .i64 2, .bool false] 56)))
  have HM1 := hide ((Below.heap_alloc w (.cells #[.int .i64 2, .int .i64 7, .int .i64 1, .int .i64 0, .int .i64 2, .bool false] 56) mg (hlt (unhide HM))).trans (unhide HM))
  have HF1 : Hid (Fr h w (w.alloc (.cells #[.int .i64 2, .int .i64 7, .int .i64 1, .int .i64 0, .int .i64 2, .bool false] 56))) := Fr.of_below ((Below.refl _ _).alloc (Nat.le_refl _) _)
  have hs1 : (w.alloc (.cells #[.int .i64 2, .int .i64 7, .int .i64 1, .int .i64 0, .int .i64 2, .bool false] 56)).heap.size = w.heap.size + 1 := by simp
  generalize w.alloc (.cells #[.int .i64 2, .int .i64 7, .int .i64 1, .int .i64 0, .int .i64 2, .bool false] 56) = W at *
  clear c1 c2 f1
  have HS1 := hide hs1
  have c1 : W.cell? ⟨h, 1, none⟩ = some (.slice none 0 0) := hcell (unhide K1).blk 1
  have d1 := cell_al c1
  have hmg : mg < w.heap.size := hlt (unhide HM)
  clear hs1
  refine wp_region_held_drew (S := (fun w' => w'.cell? ⟨w.heap.size, 0, none⟩ = some (.int .i64 2) ∧ w'.cell? ⟨w.heap.size, 1, none⟩ = some (.int .i64 7) ∧ w'.cell? ⟨w.heap.size, 2, none⟩ = some (.int .i64 1) ∧ w'.cell? ⟨w.heap.size, 3, none⟩ = some (.int .i64 0) ∧ w'.cell? ⟨w.heap.size, 4, none⟩ = some (.int .i64 2) ∧ w'.cell? ⟨w.heap.size, 5, none⟩ = some (.bool false))) (by kernel_rfl) ⟨hcell (unhide HW0) 0, hcell (unhide HW0) 1, hcell (unhide HW0) 2, hcell (unhide HW0) 3, hcell (unhide HW0) 4, hcell (unhide HW0) 5⟩ (fun hHeld => ?_)
  refine wpAnyH_take (i := 0) (oi := { dst := some 14, op := _, type := _, pos := _, after := _, guard := _ }) (v := ?_) rfl (by kernel_rfl) (by kernel_rfl) (by kernel_rfl) (fun _ _ _ h => h) (Or.inl ⟨by rfl, ?_⟩) (by assumption) ?_
  case refine_2 =>
    intro w hSw
    try dsimp only at hSw
    go_simp
    try with_reducible rfl
  simp only [Act.put, List.setIfInBounds_toArray, List.set_cons_zero, List.set_cons_succ]
  refine wpAnyH_take (i := 1) (oi := { dst := some 15, op := _, type := _, pos := _, after := _, guard := _ }) (v := ?_) rfl (by kernel_rfl) (by kernel_rfl) (by kernel_rfl) (fun _ _ _ h => h) (Or.inl ⟨by rfl, ?_⟩) (by assumption) ?_
  case refine_2 =>
    intro w hSw
    try dsimp only at hSw
    go_simp
    try with_reducible rfl
  simp only [Act.put, List.setIfInBounds_toArray, List.set_cons_zero, List.set_cons_succ]
  refine wpAnyH_take (i := 2) (oi := { dst := some 16, op := _, type := _, pos := _, after := _, guard := _ }) (v := ?_) rfl (by kernel_rfl) (by kernel_rfl) (by kernel_rfl) (fun _ _ _ h => h) (Or.inl ⟨by rfl, ?_⟩) (by assumption) ?_
  case refine_2 =>
    intro w hSw
    try dsimp only at hSw
    go_simp
    try with_reducible rfl
  simp only [Act.put, List.setIfInBounds_toArray, List.set_cons_zero, List.set_cons_succ]
  refine wpAnyH_take (i := 3) (oi := { dst := some 17, op := _, type := _, pos := _, after := _, guard := _ }) (v := ?_) rfl (by kernel_rfl) (by kernel_rfl) (by kernel_rfl) (fun _ _ _ h => h) (Or.inl ⟨by rfl, ?_⟩) (by assumption) ?_
  case refine_2 =>
    intro w hSw
    try dsimp only at hSw
    go_simp
    try with_reducible rfl
  simp only [Act.put, List.setIfInBounds_toArray, List.set_cons_zero, List.set_cons_succ]
  refine wpAnyH_take (i := 5) (oi := { dst := some 19, op := _, type := _, pos := _, after := _, guard := _ }) (v := ?_) rfl (by kernel_rfl) (by kernel_rfl) (by kernel_rfl) (fun _ _ _ h => h) (Or.inl ⟨by rfl, ?_⟩) (by assumption) ?_
  case refine_2 =>
    intro w hSw
    try dsimp only at hSw
    go_simp
    try with_reducible rfl
  simp only [Act.put, List.setIfInBounds_toArray, List.set_cons_zero, List.set_cons_succ]
  refine wpAnyH_ready (rs := [4, 6]) (by kernel_rfl) (by simp) ?_
  refine AllReadyH.cons (o := { dst := some 18, op := _, type := _, pos := _, after := _, guard := _ }) rfl (fun K hK => ?_) ?_
  · go_simp
    refine hK.out _ _ (by assumption) (fun hHeld4 => ?_)
    clear hK K
    refine wpAnyH_ready (rs := [6]) (by kernel_rfl) (by simp) ?_
    refine AllReadyH.cons (o := { dst := some 20, op := _, type := _, pos := _, after := _, guard := _ }) rfl (fun K hK => ?_) AllReadyH.nil
    go_simp
    refine hK.out _ _ ⟨cell_al (hcell (unhide HW0) 0) _, cell_al (hcell (unhide HW0) 1) _, cell_al (hcell (unhide HW0) 2) _, cell_al (hcell (unhide HW0) 3) _, cell_al (hcell (unhide HW0) 4) _, cell_al (hcell (unhide HW0) 5) _⟩ (fun hHeld6 => ?_)
    clear hK K
    refine wpAnyH_ready (rs := [7]) (by kernel_rfl) (by simp) ?_
    refine AllReadyH.cons (o := { dst := some 21, op := _, type := _, pos := _, after := _, guard := _ }) rfl (fun K hK => ?_) AllReadyH.nil
    refine step_append_lies _ (by rfl) _ _ _ (by rfl) w.heap.size 56 i0 (.agg #[.int .i64 0, .int .i64 0, .int .i64 0, .int .i64 0, .int .i64 0, .bool false]) 6 48 Try.underlying46 hi hz0 hz1 hz2 rfl (by decide) (.slice none 0 0) 0 [] (by rfl) ⟨rfl, Or.inl ⟨rfl, rfl⟩⟩ ⟨W.heap.size, 0, none⟩ 1 1 [.int .i64 2, .int .i64 7, .int .i64 1, .int .i64 0, .int .i64 2, .bool false] (by rfl) rfl (news_at (by simp) _ _) one_obj (by decide) (by unfold maxLen; omega) (by omega) (by have := unhide HS1; simp; omega) (W.heap.size + 1) (by simp) ?_
    intro g cap w3 hown hgrow hat hlt3
    have hg : g = W.heap.size + 1 := by
      rcases hat with q | q
      · cases q
      · exact q
    have hold : ∀ j, j < W.heap.size → w3.heap[j]? = W.heap[j]? := fun j hj => (hgrow.block j (by simp; omega) (by simp [Value.ownBlock])).trans (Below.heap_alloc _ _ _ hj)
    have hnb := (hold w.heap.size (by have := unhide HS1; omega)).trans (unhide HW0)
    have hhb := (hold h (hlt (unhide K1).blk)).trans (unhide K1).blk
    have HM3 := hide ((hold mg (hlt (unhide HM1))).trans (unhide HM1))
    have z1 : w3.cell? ⟨h, 1, none⟩ = some (.slice none 0 0) := hcell hhb 1
    have y1 := hfroz hhb 1
    have HHB := hide hhb
    have HOWN := hide hown
    have HF3 : Hid (Fr h w w3) := (unhide HF1).trans ⟨hgrow.os, hgrow.tape, hgrow.output, Nat.le_trans (by simp) hgrow.size, fun j hj _ => hold j hj⟩
    have hgn : g ≠ h ∧ g ≠ mg ∧ w.heap.size ≤ g := by have := unhide HS1; omega
    have s4 : ∀ u, (w3.setCell ⟨h, 1, none⟩ u).heap[w.heap.size]? = _ := fun u => (hother u (by omega)).trans hnb
    clear hown hgrow hat hlt3 hold hhb hg
    refine hK.out _ _ ⟨hcell hnb 0, hcell hnb 1, hcell hnb 2, hcell hnb 3, hcell hnb 4, hcell hnb 5⟩ (fun hHeldA => ?_)
    clear hK K
    simp only [Act.put, List.setIfInBounds_toArray, List.set_cons_zero, List.set_cons_succ]
    refine wpAnyH_take (i := 8) (oi := { dst := some 22, op := _, type := _, pos := _, after := _, guard := _ }) (v := ?_) rfl (by kernel_rfl) (by kernel_rfl) (by kernel_rfl) (fun _ _ _ h => h) (Or.inl ⟨by rfl, ?_⟩) (by assumption) ?_
    case refine_2 =>
      intro w hSw
      try dsimp only at hSw
      go_simp
      try with_reducible rfl
    simp only [Act.put, List.setIfInBounds_toArray, List.set_cons_zero, List.set_cons_succ]
    refine wpAnyH_take (i := 9) (oi := { dst := some 23, op := _, type := _, pos := _, after := _, guard := _ }) (v := ?_) rfl (by kernel_rfl) (by kernel_rfl) (by kernel_rfl) (fun _ _ _ h => h) (Or.inl ⟨by rfl, ?_⟩) (by assumption) ?_
    case refine_2 =>
      intro w hSw
      try dsimp only at hSw
      go_simp
      try with_reducible rfl
    simp only [Act.put, List.setIfInBounds_toArray, List.set_cons_zero, List.set_cons_succ]
    refine wpAnyH_ready (rs := [10]) (by kernel_rfl) (by simp) ?_
    refine AllReadyH.cons (o := { dst := none, op := _, type := _, pos := _, after := _, guard := _ }) rfl (fun K hK => ?_) AllReadyH.nil
    go_simp
    refine hK.out _ _ ⟨hcell (s4 _) 0, hcell (s4 _) 1, hcell (s4 _) 2, hcell (s4 _) 3, hcell (s4 _) 4, hcell (s4 _) 5⟩ (fun hHeldS => ?_)
    clear hK K
    refine wpAnyH_done (by kernel_rfl) ?_ _
    clear z1 y1 s4 hHeldS
    have K4 := hset (unhide HHB) 1 (.slice (some ⟨g, 0, none⟩) 1 cap)
    have HM4 := (hother (i := 1) (.slice (some ⟨g, 0, none⟩) 1 cap) (show mg ≠ h by omega)).trans (unhide HM3)
    have HF4 : Hid (Fr h w (w3.setCell ⟨h, 1, none⟩ (.slice (some ⟨g, 0, none⟩) 1 cap))) := (unhide HF3).trans (Fr.set _ _ _)
    have HG4 := hother (i := 1) (w := w3) (.slice (some ⟨g, 0, none⟩) 1 cap) hgn.1
    generalize w3.setCell ⟨h, 1, none⟩ (.slice (some ⟨g, 0, none⟩) 1 cap) = w4 at *
    have c42 : w4.cell? ⟨h, 2, none⟩ = some (.slice none 0 0) := hcell K4 2
    have HK4 := hide K4
    have HMM := hide HM4
    have HGG := hide HG4
    clear K4 HM4 HG4
    go_wp2_with (at_builtin; refine wpList_append_lies _ rfl _ _ _ rfl w.heap.size 34 i1 (.agg #[.int .i64 0, .int .i64 0, .string ByteArray.empty]) 3 32 Try.underlying29 hi1 hy0 hy1 hy2 rfl (by decide) _ 0 [] rfl ⟨rfl, Or.inl ⟨rfl, rfl⟩⟩ ⟨mg, 0, none⟩ 2 2 [.int .i64 0, .int .i64 0, .string ⟨#[]⟩, .int .i64 0, .int .i64 0, .string ⟨#[]⟩] rfl rfl (World.news_of_block (unhide HMM)) one_val (by decide) ?c3 ?c4 ?c5 w4.heap.size rfl ?_)
    case c3 => unfold maxLen; omega
    case c4 => omega
    case c5 => exact (unhide HF4).size
    intro g2 cap2 w5 hown2 hgrow2 hat2 hlt5
    obtain ⟨_, ⟨q, _⟩ | ⟨g', cap', cur, q1, q2, q3, q4, q5, q6, q7⟩⟩ := unhide HOWN
    · cases q
    cases q1
    have hg4 : g < w4.heap.size := hlt ((unhide HGG).trans q3)
    have hg2 : g2 = w4.heap.size := by
      rcases hat2 with q | q
      · cases q
      · exact q
    obtain ⟨_, ⟨q, _⟩ | ⟨g'', cap'', cur2, p1, p2, p3, p4, p5, p6, p7⟩⟩ := hown2
    · cases q
    cases p1
    have hold5 : ∀ j, j < w4.heap.size → w5.heap[j]? = w4.heap[j]? := fun j hj => hgrow2.block j hj (by simp [Value.ownBlock])
    have hh5 := (hold5 h (hlt (unhide HK4))).trans (unhide HK4)
    have hg5 := (hold5 g hg4).trans ((unhide HGG).trans q3)
    have hsz4 := (unhide HF4).size
    have hn2 : g2 ≠ h ∧ g2 ≠ g ∧ w.heap.size ≤ g2 := by omega
    have HF5 : Hid (Fr h w w5) := (unhide HF4).trans (Fr.of_grown hgrow2)
    have e1 : w5.cell? ⟨h, 1, none⟩ = some (.slice (some ⟨g, 0, none⟩) 1 cap) := hcell hh5 1
    have e2 : w5.cell? ⟨h, 2, none⟩ = some (.slice none 0 0) := hcell hh5 2
    have y2 := hfroz hh5 2
    have HOB : Hid (Ob (w5.setCell ⟨h, 2, none⟩ (.slice (some ⟨g2, 0, none⟩) 2 cap2)) g cap g2 cap2 0 0) :=
      ⟨⟨cur, (hother _ hgn.1).trans hg5, cur_get q7 (by omega), cur_get q7 (by omega), cur_get q7 (by omega), cur_get q7 (by omega), cur_get q7 (by omega), cur_get q7 (by omega)⟩, ⟨cur2, (hother _ hn2.1).trans p3, cur_get p7 (by omega), cur_get p7 (by omega), cur_get p7 (by omega), cur_get p7 (by omega), cur_get p7 (by omega), cur_get p7 (by omega)⟩, q4, p4, Ne.symm hn2.2.1⟩
    have K6 : Hid (Hp (w5.setCell ⟨h, 2, none⟩ (.slice (some ⟨g2, 0, none⟩) 2 cap2)) h mb (sv g cap 1) (sv g2 cap2 2) last) := ⟨hset hh5 2 _⟩
    have HF6 : Hid (Fr h w (w5.setCell ⟨h, 2, none⟩ (.slice (some ⟨g2, 0, none⟩) 2 cap2))) := (unhide HF5).trans (Fr.set _ _ _)
    have HN2 := hide hn2.2.2
    have HN1 := hide hgn.2.2
    clear hh5 hg5 hold5 hg2 hg4 q2 q3 q4 q5 q6 q7 p2 p3 p4 p5 p6 p7 hgrow2 hat2 hlt5 hn2 hgn hsz4
    go_wp2_with fail
    refine (address_first (unhide K6)).mono ?_
    rintro e w7 ⟨rfl, rfl⟩
    go_wp2_with fail
    go_ret
    exact ⟨rfl, unhide HF6, g, cap, g2, cap2, unhide K6, unhide HOB, unhide HN1, unhide HN2⟩
  refine AllReadyH.cons (o := { dst := some 20, op := _, type := _, pos := _, after := _, guard := _ }) rfl (fun K hK => ?_) AllReadyH.nil
  go_simp
  refine hK.out _ _ ⟨cell_al (hcell (unhide HW0) 0) _, cell_al (hcell (unhide HW0) 1) _, cell_al (hcell (unhide HW0) 2) _, cell_al (hcell (unhide HW0) 3) _, cell_al (hcell (unhide HW0) 4) _, cell_al (hcell (unhide HW0) 5) _⟩ (fun hHeld6 => ?_)
  clear hK K
  refine wpAnyH_ready (rs := [4]) (by kernel_rfl) (by simp) ?_
  refine AllReadyH.cons (o := { dst := some 18, op := _, type := _, pos := _, after := _, guard := _ }) rfl (fun K hK => ?_) AllReadyH.nil
  go_simp
  refine hK.out _ _ (by assumption) (fun hHeld4 => ?_)
  clear hK K
  refine wpAnyH_ready (rs := [7]) (by kernel_rfl) (by simp) ?_
  refine AllReadyH.cons (o := { dst := some 21, op := _, type := _, pos := _, after := _, guard := _ }) rfl (fun K hK => ?_) AllReadyH.nil
  refine step_append_lies _ (by rfl) _ _ _ (by rfl) w.heap.size 56 i0 (.agg #[.int .i64 0, .int .i64 0, .int .i64 0, .int .i64 0, .int .i64 0, .bool false]) 6 48 Try.underlying46 hi hz0 hz1 hz2 rfl (by decide) (.slice none 0 0) 0 [] (by rfl) ⟨rfl, Or.inl ⟨rfl, rfl⟩⟩ ⟨W.heap.size, 0, none⟩ 1 1 [.int .i64 2, .int .i64 7, .int .i64 1, .int .i64 0, .int .i64 2, .bool false] (by rfl) rfl (news_at (by simp) _ _) one_obj (by decide) (by unfold maxLen; omega) (by omega) (by have := unhide HS1; simp; omega) (W.heap.size + 1) (by simp) ?_
  intro g cap w3 hown hgrow hat hlt3
  have hg : g = W.heap.size + 1 := by
    rcases hat with q | q
    · cases q
    · exact q
  have hold : ∀ j, j < W.heap.size → w3.heap[j]? = W.heap[j]? := fun j hj => (hgrow.block j (by simp; omega) (by simp [Value.ownBlock])).trans (Below.heap_alloc _ _ _ hj)
  have hnb := (hold w.heap.size (by have := unhide HS1; omega)).trans (unhide HW0)
  have hhb := (hold h (hlt (unhide K1).blk)).trans (unhide K1).blk
  have HM3 := hide ((hold mg (hlt (unhide HM1))).trans (unhide HM1))
  have z1 : w3.cell? ⟨h, 1, none⟩ = some (.slice none 0 0) := hcell hhb 1
  have y1 := hfroz hhb 1
  have HHB := hide hhb
  have HOWN := hide hown
  have HF3 : Hid (Fr h w w3) := (unhide HF1).trans ⟨hgrow.os, hgrow.tape, hgrow.output, Nat.le_trans (by simp) hgrow.size, fun j hj _ => hold j hj⟩
  have hgn : g ≠ h ∧ g ≠ mg ∧ w.heap.size ≤ g := by have := unhide HS1; omega
  have s4 : ∀ u, (w3.setCell ⟨h, 1, none⟩ u).heap[w.heap.size]? = _ := fun u => (hother u (by omega)).trans hnb
  clear hown hgrow hat hlt3 hold hhb hg
  refine hK.out _ _ ⟨hcell hnb 0, hcell hnb 1, hcell hnb 2, hcell hnb 3, hcell hnb 4, hcell hnb 5⟩ (fun hHeldA => ?_)
  clear hK K
  simp only [Act.put, List.setIfInBounds_toArray, List.set_cons_zero, List.set_cons_succ]
  refine wpAnyH_take (i := 8) (oi := { dst := some 22, op := _, type := _, pos := _, after := _, guard := _ }) (v := ?_) rfl (by kernel_rfl) (by kernel_rfl) (by kernel_rfl) (fun _ _ _ h => h) (Or.inl ⟨by rfl, ?_⟩) (by assumption) ?_
  case refine_2 =>
    intro w hSw
    try dsimp only at hSw
    go_simp
    try with_reducible rfl
  simp only [Act.put, List.setIfInBounds_toArray, List.set_cons_zero, List.set_cons_succ]
  refine wpAnyH_take (i := 9) (oi := { dst := some 23, op := _, type := _, pos := _, after := _, guard := _ }) (v := ?_) rfl (by kernel_rfl) (by kernel_rfl) (by kernel_rfl) (fun _ _ _ h => h) (Or.inl ⟨by rfl, ?_⟩) (by assumption) ?_
  case refine_2 =>
    intro w hSw
    try dsimp only at hSw
    go_simp
    try with_reducible rfl
  simp only [Act.put, List.setIfInBounds_toArray, List.set_cons_zero, List.set_cons_succ]
  refine wpAnyH_ready (rs := [10]) (by kernel_rfl) (by simp) ?_
  refine AllReadyH.cons (o := { dst := none, op := _, type := _, pos := _, after := _, guard := _ }) rfl (fun K hK => ?_) AllReadyH.nil
  go_simp
  refine hK.out _ _ ⟨hcell (s4 _) 0, hcell (s4 _) 1, hcell (s4 _) 2, hcell (s4 _) 3, hcell (s4 _) 4, hcell (s4 _) 5⟩ (fun hHeldS => ?_)
  clear hK K
  refine wpAnyH_done (by kernel_rfl) ?_ _
  clear z1 y1 s4 hHeldS
  have K4 := hset (unhide HHB) 1 (.slice (some ⟨g, 0, none⟩) 1 cap)
  have HM4 := (hother (i := 1) (.slice (some ⟨g, 0, none⟩) 1 cap) (show mg ≠ h by omega)).trans (unhide HM3)
  have HF4 : Hid (Fr h w (w3.setCell ⟨h, 1, none⟩ (.slice (some ⟨g, 0, none⟩) 1 cap))) := (unhide HF3).trans (Fr.set _ _ _)
  have HG4 := hother (i := 1) (w := w3) (.slice (some ⟨g, 0, none⟩) 1 cap) hgn.1
  generalize w3.setCell ⟨h, 1, none⟩ (.slice (some ⟨g, 0, none⟩) 1 cap) = w4 at *
  have c42 : w4.cell? ⟨h, 2, none⟩ = some (.slice none 0 0) := hcell K4 2
  have HK4 := hide K4
  have HMM := hide HM4
  have HGG := hide HG4
  clear K4 HM4 HG4
  go_wp2_with (at_builtin; refine wpList_append_lies _ rfl _ _ _ rfl w.heap.size 34 i1 (.agg #[.int .i64 0, .int .i64 0, .string ByteArray.empty]) 3 32 Try.underlying29 hi1 hy0 hy1 hy2 rfl (by decide) _ 0 [] rfl ⟨rfl, Or.inl ⟨rfl, rfl⟩⟩ ⟨mg, 0, none⟩ 2 2 [.int .i64 0, .int .i64 0, .string ⟨#[]⟩, .int .i64 0, .int .i64 0, .string ⟨#[]⟩] rfl rfl (World.news_of_block (unhide HMM)) one_val (by decide) ?c3 ?c4 ?c5 w4.heap.size rfl ?_)
  case c3 => unfold maxLen; omega
  case c4 => omega
  case c5 => exact (unhide HF4).size
  intro g2 cap2 w5 hown2 hgrow2 hat2 hlt5
  obtain ⟨_, ⟨q, _⟩ | ⟨g', cap', cur, q1, q2, q3, q4, q5, q6, q7⟩⟩ := unhide HOWN
  · cases q
  cases q1
  have hg4 : g < w4.heap.size := hlt ((unhide HGG).trans q3)
  have hg2 : g2 = w4.heap.size := by
    rcases hat2 with q | q
    · cases q
    · exact q
  obtain ⟨_, ⟨q, _⟩ | ⟨g'', cap'', cur2, p1, p2, p3, p4, p5, p6, p7⟩⟩ := hown2
  · cases q
  cases p1
  have hold5 : ∀ j, j < w4.heap.size → w5.heap[j]? = w4.heap[j]? := fun j hj => hgrow2.block j hj (by simp [Value.ownBlock])
  have hh5 := (hold5 h (hlt (unhide HK4))).trans (unhide HK4)
  have hg5 := (hold5 g hg4).trans ((unhide HGG).trans q3)
  have hsz4 := (unhide HF4).size
  have hn2 : g2 ≠ h ∧ g2 ≠ g ∧ w.heap.size ≤ g2 := by omega
  have HF5 : Hid (Fr h w w5) := (unhide HF4).trans (Fr.of_grown hgrow2)
  have e1 : w5.cell? ⟨h, 1, none⟩ = some (.slice (some ⟨g, 0, none⟩) 1 cap) := hcell hh5 1
  have e2 : w5.cell? ⟨h, 2, none⟩ = some (.slice none 0 0) := hcell hh5 2
  have y2 := hfroz hh5 2
  have HOB : Hid (Ob (w5.setCell ⟨h, 2, none⟩ (.slice (some ⟨g2, 0, none⟩) 2 cap2)) g cap g2 cap2 0 0) :=
    ⟨⟨cur, (hother _ hgn.1).trans hg5, cur_get q7 (by omega), cur_get q7 (by omega), cur_get q7 (by omega), cur_get q7 (by omega), cur_get q7 (by omega), cur_get q7 (by omega)⟩, ⟨cur2, (hother _ hn2.1).trans p3, cur_get p7 (by omega), cur_get p7 (by omega), cur_get p7 (by omega), cur_get p7 (by omega), cur_get p7 (by omega), cur_get p7 (by omega)⟩, q4, p4, Ne.symm hn2.2.1⟩
  have K6 : Hid (Hp (w5.setCell ⟨h, 2, none⟩ (.slice (some ⟨g2, 0, none⟩) 2 cap2)) h mb (sv g cap 1) (sv g2 cap2 2) last) := ⟨hset hh5 2 _⟩
  have HF6 : Hid (Fr h w (w5.setCell ⟨h, 2, none⟩ (.slice (some ⟨g2, 0, none⟩) 2 cap2))) := (unhide HF5).trans (Fr.set _ _ _)
  have HN2 := hide hn2.2.2
  have HN1 := hide hgn.2.2
  clear hh5 hg5 hold5 hg2 hg4 q2 q3 q4 q5 q6 q7 p2 p3 p4 p5 p6 p7 hgrow2 hat2 hlt5 hn2 hgn hsz4
  go_wp2_with fail
  refine (address_first (unhide K6)).mono ?_
  rintro e w7 ⟨rfl, rfl⟩
  go_wp2_with fail
  go_ret
  exact ⟨rfl, unhide HF6, g, cap, g2, cap2, unhide K6, unhide HOB, unhide HN1, unhide HN2⟩
end Go.Proofs.Ytddfdefgdlfpmaa
