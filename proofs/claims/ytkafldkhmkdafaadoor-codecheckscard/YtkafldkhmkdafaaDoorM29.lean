/-
  An image that is handed in: opened.
-/
import Derived.Test.YtkafldkhmkdafaaDoorM28
import Derived.Deep.Slices
import Derived.SizedLaws
namespace Go.Proofs.YtkafldkhmkdafaaDoor
open Go.RowKit Go.ChangeShapes Go.Deep

theorem list_of {α : Type} {p : Nat → α → Prop} : ∀ n, (∀ i, i < n → ∃ a, p i a) → ∃ l : List α, l.length = n ∧ ∀ i a, l[i]? = some a → p i a
  | 0, _ => ⟨[], rfl, fun i a h => by simp at h⟩
  | n + 1, h => by
    obtain ⟨l, h1, h2⟩ := list_of n (fun i hi => h i (by omega))
    obtain ⟨a, ha⟩ := h n (by omega)
    refine ⟨l ++ [a], by simp [h1], fun i b hb => ?_⟩
    by_cases hi : i < l.length
    · rw [List.getElem?_append_left hi] at hb
      exact h2 i b hb
    · rw [List.getElem?_append_right (by omega)] at hb
      have : i - l.length = 0 := by
        have := (List.getElem?_eq_some_iff.1 hb).1
        simp at this
        omega
      rw [this] at hb
      simp at hb
      subst hb
      have : i = n := by omega
      rw [this]
      exact ha
theorem SlAt.turn {w : World} {v : Value} {n k b : Nat} {R R' : Nat → Nat → Value} (h : SlAt w v n k b R) (hR : ∀ i, i < n → ∀ j, j < k → R i j = R' i j) : SlAt w v n k b R' := by
  obtain ⟨g, cap, h1, h2, h3⟩ := h
  refine ⟨g, cap, h1, h2, fun i hi => ?_⟩
  obtain ⟨q, o, h4, h5⟩ := h3 i hi
  exact ⟨q, o, h4, fun j hj => by rw [h5 j hj, hR i hi j hj]⟩

section
variable {H : Type} {enc : TypeId × Value → H} {w : World} {sp : Nat → Bool} {held : Bool}

/-- A datum's rows are not too long. -/
def Light (t : TypeId) (d : DataW H) : Prop := ∀ n ∈ d.weights Tryd.prog t, n ≤ 140737488355328
theorem weightsAll_mem {e : TypeId} : ∀ {l : List (DataW H)} {d : DataW H}, d ∈ l → ∀ n ∈ d.weights Tryd.prog e, n ∈ DataW.weightsAll Tryd.prog e l
  | x :: r, d, h, n, hn => by
    rw [DataW.weightsAll, List.mem_append]
    rcases List.mem_cons.1 h with rfl | h
    · exact Or.inl hn
    · exact Or.inr (weightsAll_mem h n hn)
theorem int_top {n : Int} (h : (IntKind.i64.min ≤ n ∧ n ≤ IntKind.i64.max)) : n ≤ 9223372036854775807 := h.2
theorem cell_spot {w : World} {a : Addr} {v : Value} (h : w.cell? a = some v) : a.spot = none := by
  unfold World.cell? at h
  split at h
  · split at h
    · cases h
    · rename_i hh
      simpa using hh
  · cases h
theorem sl_open {t e : TypeId} {k by_ : Nat} (ht : Tryd.prog.underlying t = some (.slice e)) (hc : Tryd.prog.cellsOf e = k) (hk : 0 < k) (hby : Tryd.prog.bytesOf e = by_) {fuel : Nat} {v : Value} {x : DataW H × List MemPlace}
    (h : DataW.trod enc Tryd.prog w 0 sp held fuel t [v] = some x) (hl : Light t x.1) :
    ∃ (n : Nat) (R : Nat → Nat → Value) (D : Nat → DataW H), SlAt w v n k by_ R ∧ ∀ i, i < n → (∃ m y, DataW.trod enc Tryd.prog w 0 sp held m e ((List.range k).map (R i)) = some (D i, y)) ∧ Light e (D i) := by
  rcases open_slice ht h with ⟨h0, rfl⟩ | ⟨a, len, cap, m, n, D, Pl, hcs, hb, hle, hcap, hm, rfl, hx⟩
  · cases h0
    exact ⟨0, fun _ _ => undef, fun _ => .nil, ⟨none, 0, rfl, by omega, fun i hi => absurd hi (Nat.not_lt_zero i)⟩, fun i hi => absurd hi (Nat.not_lt_zero i)⟩
  · cases hcs
    have hlm : len ≤ m := by rw [hm]; split <;> omega
    rw [hc] at hx
    unfold Light at hl
    simp only [DataW.weights, ht, hby, List.length_map, List.length_range] at hl
    have h1 := hl _ (List.mem_cons_self ..)
    have cell : ∀ i, i < len → ∀ j, j < k → ∃ u, w.cell? (a.add (i * k + j)) = some u := fun i hi j hj => by
      obtain ⟨cs', q1, _⟩ := hx i (by omega)
      obtain ⟨_, q2, q3⟩ := World.cells?_some q1
      have := q3 j hj
      rw [add_add, List.getElem?_eq_getElem (by omega)] at this
      exact ⟨_, this⟩
    have spot : 0 < len → a = ⟨a.block, a.off, none⟩ := fun hp => by
      obtain ⟨u, hu⟩ := cell 0 hp 0 hk
      have := cell_spot hu
      rw [show 0 * k + 0 = 0 by omega, show a.add 0 = a from rfl] at this
      cases a
      simp_all
    refine ⟨len, fun i j => (w.cell? (a.add (i * k + j))).getD undef, D, ⟨some a, cap, rfl, ?_, fun i hi => ⟨a.block, a.off, by rw [← spot (by omega)], fun j hj => ?_⟩⟩, fun i hi => ⟨?_, ?_⟩⟩
    · exact Nat.le_trans (Nat.mul_le_mul_right _ (by omega)) h1
    · obtain ⟨u, hu⟩ := cell i hi j hj
      have e : (⟨a.block, a.off + i * k + j, none⟩ : Addr) = a.add (i * k + j) := by
        have hs := congrArg Addr.spot (spot (by omega))
        unfold Addr.add
        split
        · rename_i q
          cases a
          simp_all
        · simp
      show _ = some ((w.cell? (a.add (i * k + j))).getD undef)
      rw [e, hu]
      rfl
    · obtain ⟨cs', q1, q2⟩ := hx i (by omega)
      obtain ⟨_, q3, q4⟩ := World.cells?_some q1
      refine ⟨n, Pl i, ?_⟩
      have e : (List.range k).map (fun j => (w.cell? (a.add (i * k + j))).getD undef) = cs' := ?_
      · rw [e]
        exact q2
      apply List.ext_getElem?
      intro j
      by_cases hj : j < k
      · rw [List.getElem?_map, List.getElem?_range hj, ← q4 j hj, add_add]
        obtain ⟨u, hu⟩ := cell i hi j hj
        simp [hu]
      · rw [List.getElem?_eq_none (by simp; omega), List.getElem?_eq_none (by omega)]
    · intro n' hn'
      refine hl n' (List.mem_cons_of_mem _ (List.mem_append_left _ (weightsAll_mem (List.mem_map.2 ⟨i, List.mem_range.2 hi, rfl⟩) n' hn')))
theorem cells_int : Tryd.prog.cellsOf 3 = 1 := by kernel_rfl
theorem cells_string : Tryd.prog.cellsOf 9 = 1 := by kernel_rfl
theorem cells_bool : Tryd.prog.cellsOf 4 = 1 := by kernel_rfl
theorem instr_row {fuel : Nat} {R : Nat → Value} {y : DataW H × List MemPlace} (h : DataW.trod enc Tryd.prog w 0 sp held fuel 79 ((List.range 3).map R) = some y) : ∃ x : PI, R 0 = .int .i64 x.op ∧ R 1 = .int .i64 x.a ∧ R 2 = .int .i64 x.b ∧ x.b ≤ 9223372036854775807 := by
  rw [show (List.range 3).map R = [R 0, R 1, R 2] from rfl] at h
  obtain ⟨ys, n, _, hy, _, hyl, hf⟩ := DataW.trod_struct Tryd.underlying79 h
  match ys, hyl with
  | [y0, y1, y2], _ =>
    have f0 : DataW.trod enc Tryd.prog w 0 sp held n 3 (([R 0, R 1, R 2].drop 0).take (Tryd.prog.cellsOf 3)) = some y0 := hf 0 _ rfl
    rw [cells_int] at f0
    obtain ⟨n0, e0, _, w0⟩ := DataW.trod_int Tryd.underlying3 f0
    have e0 : R 0 = .int .i64 n0 := List.head_eq_of_cons_eq e0
    have f1 : DataW.trod enc Tryd.prog w 0 sp held n 3 (([R 0, R 1, R 2].drop 1).take (Tryd.prog.cellsOf 3)) = some y1 := hf 1 _ rfl
    rw [cells_int] at f1
    obtain ⟨n1, e1, _, w1⟩ := DataW.trod_int Tryd.underlying3 f1
    have e1 : R 1 = .int .i64 n1 := List.head_eq_of_cons_eq e1
    have f2 : DataW.trod enc Tryd.prog w 0 sp held n 3 (([R 0, R 1, R 2].drop 2).take (Tryd.prog.cellsOf 3)) = some y2 := hf 2 _ rfl
    rw [cells_int] at f2
    obtain ⟨n2, e2, _, w2⟩ := DataW.trod_int Tryd.underlying3 f2
    have e2 : R 2 = .int .i64 n2 := List.head_eq_of_cons_eq e2
    simp only [Lit.wf, Bool.and_eq_true, decide_eq_true_eq] at w2
    exact ⟨⟨n0, n1, n2⟩, e0, e1, e2, int_top w2⟩
theorem cells_instr : Tryd.prog.cellsOf 79 = 3 := by kernel_rfl
theorem bytes_instr : Tryd.prog.bytesOf 79 = 24 := by kernel_rfl
theorem instrs_open {fuel : Nat} {v : Value} {x : DataW H × List MemPlace} (h : DataW.trod enc Tryd.prog w 0 sp held fuel 47 [v] = some x) (hl : Light 47 x.1) : ∃ l : List PI, InstrsAt w v l ∧ ∀ x ∈ l, x.b ≤ 9223372036854775807 := by
  obtain ⟨n, R, D, h1, h2⟩ := sl_open Tryd.underlying47 cells_instr (by decide) bytes_instr h hl
  obtain ⟨l, rfl, h4⟩ := list_of n (fun i hi => (h2 i hi).1.elim fun m q => q.elim fun y q => instr_row q)
  refine ⟨l, h1.turn fun i hi j hj => by
    have q := h4 i _ (List.getElem?_eq_getElem hi)
    rw [instrRow, List.getElem?_eq_getElem hi]
    match j, hj with
    | 0, _ => exact q.1
    | 1, _ => exact q.2.1
    | 2, _ => exact q.2.2.1, fun x hx => ?_⟩
  obtain ⟨i, hi⟩ := List.getElem?_of_mem hx
  exact (h4 i x hi).2.2.2
theorem hand_row {fuel : Nat} {R : Nat → Value} {y : DataW H × List MemPlace} (h : DataW.trod enc Tryd.prog w 0 sp held fuel 82 ((List.range 3).map R) = some y) : ∃ x : PH, R 0 = .int .i64 x.fr ∧ R 1 = .int .i64 x.to ∧ R 2 = .int .i64 x.tg := by
  rw [show (List.range 3).map R = [R 0, R 1, R 2] from rfl] at h
  obtain ⟨ys, n, _, hy, _, hyl, hf⟩ := DataW.trod_struct Tryd.underlying82 h
  match ys, hyl with
  | [y0, y1, y2], _ =>
    have f0 : DataW.trod enc Tryd.prog w 0 sp held n 3 (([R 0, R 1, R 2].drop 0).take (Tryd.prog.cellsOf 3)) = some y0 := hf 0 _ rfl
    rw [cells_int] at f0
    obtain ⟨n0, e0, _, w0⟩ := DataW.trod_int Tryd.underlying3 f0
    have e0 : R 0 = .int .i64 n0 := List.head_eq_of_cons_eq e0
    have f1 : DataW.trod enc Tryd.prog w 0 sp held n 3 (([R 0, R 1, R 2].drop 1).take (Tryd.prog.cellsOf 3)) = some y1 := hf 1 _ rfl
    rw [cells_int] at f1
    obtain ⟨n1, e1, _, w1⟩ := DataW.trod_int Tryd.underlying3 f1
    have e1 : R 1 = .int .i64 n1 := List.head_eq_of_cons_eq e1
    have f2 : DataW.trod enc Tryd.prog w 0 sp held n 3 (([R 0, R 1, R 2].drop 2).take (Tryd.prog.cellsOf 3)) = some y2 := hf 2 _ rfl
    rw [cells_int] at f2
    obtain ⟨n2, e2, _, w2⟩ := DataW.trod_int Tryd.underlying3 f2
    have e2 : R 2 = .int .i64 n2 := List.head_eq_of_cons_eq e2
    exact ⟨⟨n0, n1, n2⟩, e0, e1, e2⟩
theorem cells_hand : Tryd.prog.cellsOf 82 = 3 := by kernel_rfl
theorem bytes_hand : Tryd.prog.bytesOf 82 = 24 := by kernel_rfl
theorem hands_open {fuel : Nat} {v : Value} {x : DataW H × List MemPlace} (h : DataW.trod enc Tryd.prog w 0 sp held fuel 48 [v] = some x) (hl : Light 48 x.1) : ∃ l : List PH, HandsAt w v l := by
  obtain ⟨n, R, D, h1, h2⟩ := sl_open Tryd.underlying48 cells_hand (by decide) bytes_hand h hl
  obtain ⟨l, rfl, h4⟩ := list_of n (fun i hi => (h2 i hi).1.elim fun m q => q.elim fun y q => hand_row q)
  exact ⟨l, h1.turn fun i hi j hj => by
    have q := h4 i _ (List.getElem?_eq_getElem hi)
    rw [handRow, List.getElem?_eq_getElem hi]
    match j, hj with
    | 0, _ => exact q.1
    | 1, _ => exact q.2.1
    | 2, _ => exact q.2.2⟩
theorem var_row {fuel : Nat} {R : Nat → Value} {y : DataW H × List MemPlace} (h : DataW.trod enc Tryd.prog w 0 sp held fuel 85 ((List.range 5).map R) = some y) : ∃ x : PV, R 0 = .string x.name ∧ R 1 = .int .i64 x.slot ∧ R 2 = .int .i64 x.fr ∧ R 3 = .int .i64 x.to ∧ R 4 = .bool x.boxed := by
  rw [show (List.range 5).map R = [R 0, R 1, R 2, R 3, R 4] from rfl] at h
  obtain ⟨ys, n, _, hy, _, hyl, hf⟩ := DataW.trod_struct Tryd.underlying85 h
  match ys, hyl with
  | [y0, y1, y2, y3, y4], _ =>
    have f0 : DataW.trod enc Tryd.prog w 0 sp held n 9 (([R 0, R 1, R 2, R 3, R 4].drop 0).take (Tryd.prog.cellsOf 9)) = some y0 := hf 0 _ rfl
    rw [cells_string] at f0
    obtain ⟨n0, e0, _, w0⟩ := DataW.trod_string Tryd.underlying9 f0
    have e0 : R 0 = .string n0 := List.head_eq_of_cons_eq e0
    have f1 : DataW.trod enc Tryd.prog w 0 sp held n 3 (([R 0, R 1, R 2, R 3, R 4].drop 1).take (Tryd.prog.cellsOf 3)) = some y1 := hf 1 _ rfl
    rw [cells_int] at f1
    obtain ⟨n1, e1, _, w1⟩ := DataW.trod_int Tryd.underlying3 f1
    have e1 : R 1 = .int .i64 n1 := List.head_eq_of_cons_eq e1
    have f2 : DataW.trod enc Tryd.prog w 0 sp held n 3 (([R 0, R 1, R 2, R 3, R 4].drop 2).take (Tryd.prog.cellsOf 3)) = some y2 := hf 2 _ rfl
    rw [cells_int] at f2
    obtain ⟨n2, e2, _, w2⟩ := DataW.trod_int Tryd.underlying3 f2
    have e2 : R 2 = .int .i64 n2 := List.head_eq_of_cons_eq e2
    have f3 : DataW.trod enc Tryd.prog w 0 sp held n 3 (([R 0, R 1, R 2, R 3, R 4].drop 3).take (Tryd.prog.cellsOf 3)) = some y3 := hf 3 _ rfl
    rw [cells_int] at f3
    obtain ⟨n3, e3, _, w3⟩ := DataW.trod_int Tryd.underlying3 f3
    have e3 : R 3 = .int .i64 n3 := List.head_eq_of_cons_eq e3
    have f4 : DataW.trod enc Tryd.prog w 0 sp held n 4 (([R 0, R 1, R 2, R 3, R 4].drop 4).take (Tryd.prog.cellsOf 4)) = some y4 := hf 4 _ rfl
    rw [cells_bool] at f4
    obtain ⟨n4, e4, _⟩ := DataW.trod_bool Tryd.underlying4 f4
    have e4 : R 4 = .bool n4 := List.head_eq_of_cons_eq e4
    exact ⟨⟨n0, n1, n2, n3, n4⟩, e0, e1, e2, e3, e4⟩
theorem cells_var : Tryd.prog.cellsOf 85 = 5 := by kernel_rfl
theorem bytes_var : Tryd.prog.bytesOf 85 = 48 := by kernel_rfl
theorem vars_open {fuel : Nat} {v : Value} {x : DataW H × List MemPlace} (h : DataW.trod enc Tryd.prog w 0 sp held fuel 49 [v] = some x) (hl : Light 49 x.1) : ∃ l : List PV, VarsAt w v l := by
  obtain ⟨n, R, D, h1, h2⟩ := sl_open Tryd.underlying49 cells_var (by decide) bytes_var h hl
  obtain ⟨l, rfl, h4⟩ := list_of n (fun i hi => (h2 i hi).1.elim fun m q => q.elim fun y q => var_row q)
  exact ⟨l, h1.turn fun i hi j hj => by
    have q := h4 i _ (List.getElem?_eq_getElem hi)
    rw [varRow, List.getElem?_eq_getElem hi]
    match j, hj with
    | 0, _ => exact q.1
    | 1, _ => exact q.2.1
    | 2, _ => exact q.2.2.1
    | 3, _ => exact q.2.2.2.1
    | 4, _ => exact q.2.2.2.2⟩
theorem const_row {fuel : Nat} {R : Nat → Value} {y : DataW H × List MemPlace} (h : DataW.trod enc Tryd.prog w 0 sp held fuel 76 ((List.range 3).map R) = some y) : ∃ x : PC, R 0 = .bool x.text ∧ R 1 = .string x.s ∧ R 2 = .int .i64 x.n := by
  rw [show (List.range 3).map R = [R 0, R 1, R 2] from rfl] at h
  obtain ⟨ys, n, _, hy, _, hyl, hf⟩ := DataW.trod_struct Tryd.underlying76 h
  match ys, hyl with
  | [y0, y1, y2], _ =>
    have f0 : DataW.trod enc Tryd.prog w 0 sp held n 4 (([R 0, R 1, R 2].drop 0).take (Tryd.prog.cellsOf 4)) = some y0 := hf 0 _ rfl
    rw [cells_bool] at f0
    obtain ⟨n0, e0, _⟩ := DataW.trod_bool Tryd.underlying4 f0
    have e0 : R 0 = .bool n0 := List.head_eq_of_cons_eq e0
    have f1 : DataW.trod enc Tryd.prog w 0 sp held n 9 (([R 0, R 1, R 2].drop 1).take (Tryd.prog.cellsOf 9)) = some y1 := hf 1 _ rfl
    rw [cells_string] at f1
    obtain ⟨n1, e1, _, w1⟩ := DataW.trod_string Tryd.underlying9 f1
    have e1 : R 1 = .string n1 := List.head_eq_of_cons_eq e1
    have f2 : DataW.trod enc Tryd.prog w 0 sp held n 3 (([R 0, R 1, R 2].drop 2).take (Tryd.prog.cellsOf 3)) = some y2 := hf 2 _ rfl
    rw [cells_int] at f2
    obtain ⟨n2, e2, _, w2⟩ := DataW.trod_int Tryd.underlying3 f2
    have e2 : R 2 = .int .i64 n2 := List.head_eq_of_cons_eq e2
    exact ⟨⟨n0, n1, n2⟩, e0, e1, e2⟩
theorem cells_const : Tryd.prog.cellsOf 76 = 3 := by kernel_rfl
theorem bytes_const : Tryd.prog.bytesOf 76 = 32 := by kernel_rfl
theorem consts_open {fuel : Nat} {v : Value} {x : DataW H × List MemPlace} (h : DataW.trod enc Tryd.prog w 0 sp held fuel 23 [v] = some x) (hl : Light 23 x.1) : ∃ l : List PC, ConstsAt w v l := by
  obtain ⟨n, R, D, h1, h2⟩ := sl_open Tryd.underlying23 cells_const (by decide) bytes_const h hl
  obtain ⟨l, rfl, h4⟩ := list_of n (fun i hi => (h2 i hi).1.elim fun m q => q.elim fun y q => const_row q)
  exact ⟨l, h1.turn fun i hi j hj => by
    have q := h4 i _ (List.getElem?_eq_getElem hi)
    rw [constRow, List.getElem?_eq_getElem hi]
    match j, hj with
    | 0, _ => exact q.1
    | 1, _ => exact q.2.1
    | 2, _ => exact q.2.2⟩
theorem bytes_string : Tryd.prog.bytesOf 9 = 16 := by kernel_rfl
theorem strs_open {fuel : Nat} {v : Value} {x : DataW H × List MemPlace} (h : DataW.trod enc Tryd.prog w 0 sp held fuel 52 [v] = some x) (hl : Light 52 x.1) : ∃ l : List ByteArray, StrsAt w v l := by
  obtain ⟨n, R, D, h1, h2⟩ := sl_open Tryd.underlying52 cells_string (by decide) bytes_string h hl
  obtain ⟨l, rfl, h4⟩ := list_of (p := fun i (x : ByteArray) => R i 0 = .string x) n (fun i hi => by
    obtain ⟨⟨m, y, q⟩, _⟩ := h2 i hi
    rw [show (List.range 1).map (R i) = [R i 0] from rfl] at q
    obtain ⟨n, e, _⟩ := DataW.trod_string Tryd.underlying9 q
    exact ⟨n, List.head_eq_of_cons_eq e⟩)
  exact ⟨l, h1.turn fun i hi j hj => by
    have q := h4 i _ (List.getElem?_eq_getElem hi)
    rw [strRow, List.getElem?_eq_getElem hi]
    match j, hj with
    | 0, _ => exact q⟩
theorem bytes_int : Tryd.prog.bytesOf 3 = 8 := by kernel_rfl
theorem ints_open {fuel : Nat} {v : Value} {x : DataW H × List MemPlace} (h : DataW.trod enc Tryd.prog w 0 sp held fuel 53 [v] = some x) (hl : Light 53 x.1) : ∃ l : List Int, IntsAt w v l := by
  obtain ⟨n, R, D, h1, h2⟩ := sl_open Tryd.underlying53 cells_int (by decide) bytes_int h hl
  obtain ⟨l, rfl, h4⟩ := list_of (p := fun i (x : Int) => R i 0 = .int .i64 x) n (fun i hi => by
    obtain ⟨⟨m, y, q⟩, _⟩ := h2 i hi
    rw [show (List.range 1).map (R i) = [R i 0] from rfl] at q
    obtain ⟨n, e, _⟩ := DataW.trod_int Tryd.underlying3 q
    exact ⟨n, List.head_eq_of_cons_eq e⟩)
  exact ⟨l, h1.turn fun i hi j hj => by
    have q := h4 i _ (List.getElem?_eq_getElem hi)
    rw [intRow, List.getElem?_eq_getElem hi]
    match j, hj with
    | 0, _ => exact q⟩
theorem func_row {fuel : Nat} {R : Nat → Value} {y : DataW H × List MemPlace} (h : DataW.trod enc Tryd.prog w 0 sp held fuel 51 ((List.range 6).map R) = some y) (hl : Light 51 y.1) : ∃ x : PF, FnIs w R x ∧ InB x := by
  rw [show (List.range 6).map R = [R 0, R 1, R 2, R 3, R 4, R 5] from rfl] at h
  obtain ⟨ys, n, _, hy, _, hyl, hf⟩ := DataW.trod_struct Tryd.underlying51 h
  match ys, hyl with
  | [y0, y1, y2, y3, y4, y5], _ =>
    have f0 : DataW.trod enc Tryd.prog w 0 sp held n 9 (([R 0, R 1, R 2, R 3, R 4, R 5].drop 0).take (Tryd.prog.cellsOf 9)) = some y0 := hf 0 _ rfl
    rw [cells_string] at f0
    obtain ⟨n0, e0, _, w0⟩ := DataW.trod_string Tryd.underlying9 f0
    have e0 : R 0 = .string n0 := List.head_eq_of_cons_eq e0
    have f1 : DataW.trod enc Tryd.prog w 0 sp held n 3 (([R 0, R 1, R 2, R 3, R 4, R 5].drop 1).take (Tryd.prog.cellsOf 3)) = some y1 := hf 1 _ rfl
    rw [cells_int] at f1
    obtain ⟨n1, e1, _, w1⟩ := DataW.trod_int Tryd.underlying3 f1
    have e1 : R 1 = .int .i64 n1 := List.head_eq_of_cons_eq e1
    have f2 : DataW.trod enc Tryd.prog w 0 sp held n 3 (([R 0, R 1, R 2, R 3, R 4, R 5].drop 2).take (Tryd.prog.cellsOf 3)) = some y2 := hf 2 _ rfl
    rw [cells_int] at f2
    obtain ⟨n2, e2, _, w2⟩ := DataW.trod_int Tryd.underlying3 f2
    have e2 : R 2 = .int .i64 n2 := List.head_eq_of_cons_eq e2
    have f3 : DataW.trod enc Tryd.prog w 0 sp held n 47 (([R 0, R 1, R 2, R 3, R 4, R 5].drop 3).take (Tryd.prog.cellsOf 47)) = some y3 := hf 3 _ rfl
    have f4 : DataW.trod enc Tryd.prog w 0 sp held n 48 (([R 0, R 1, R 2, R 3, R 4, R 5].drop 4).take (Tryd.prog.cellsOf 48)) = some y4 := hf 4 _ rfl
    have f5 : DataW.trod enc Tryd.prog w 0 sp held n 49 (([R 0, R 1, R 2, R 3, R 4, R 5].drop 5).take (Tryd.prog.cellsOf 49)) = some y5 := hf 5 _ rfl
    have L3 : Light 47 y3.1 := fun q hq => hl q (by
      rw [hy]
      simp only [DataW.weights, Tryd.underlying51]
      exact DataW.weights_mem_each (j := 3) rfl rfl q hq)
    rw [show Tryd.prog.cellsOf 47 = 1 by kernel_rfl] at f3
    rw [show (([R 0, R 1, R 2, R 3, R 4, R 5].drop 3).take 1) = [R 3] from rfl] at f3
    have L4 : Light 48 y4.1 := fun q hq => hl q (by
      rw [hy]
      simp only [DataW.weights, Tryd.underlying51]
      exact DataW.weights_mem_each (j := 4) rfl rfl q hq)
    rw [show Tryd.prog.cellsOf 48 = 1 by kernel_rfl] at f4
    rw [show (([R 0, R 1, R 2, R 3, R 4, R 5].drop 4).take 1) = [R 4] from rfl] at f4
    have L5 : Light 49 y5.1 := fun q hq => hl q (by
      rw [hy]
      simp only [DataW.weights, Tryd.underlying51]
      exact DataW.weights_mem_each (j := 5) rfl rfl q hq)
    rw [show Tryd.prog.cellsOf 49 = 1 by kernel_rfl] at f5
    rw [show (([R 0, R 1, R 2, R 3, R 4, R 5].drop 5).take 1) = [R 5] from rfl] at f5
    obtain ⟨l3, g3, g4⟩ := instrs_open f3 L3
    obtain ⟨l4, g5⟩ := hands_open f4 L4
    obtain ⟨l5, g6⟩ := vars_open f5 L5
    exact ⟨⟨n0, n1, n2, l3, l4, l5⟩, ⟨e0, e1, e2, g3, g5, g6⟩, g4⟩
theorem kind_row {fuel : Nat} {R : Nat → Value} {y : DataW H × List MemPlace} (h : DataW.trod enc Tryd.prog w 0 sp held fuel 55 ((List.range 5).map R) = some y) (hl : Light 55 y.1) : ∃ x : PK, KdIs w R x := by
  rw [show (List.range 5).map R = [R 0, R 1, R 2, R 3, R 4] from rfl] at h
  obtain ⟨ys, n, _, hy, _, hyl, hf⟩ := DataW.trod_struct Tryd.underlying55 h
  match ys, hyl with
  | [y0, y1, y2, y3, y4], _ =>
    have f0 : DataW.trod enc Tryd.prog w 0 sp held n 9 (([R 0, R 1, R 2, R 3, R 4].drop 0).take (Tryd.prog.cellsOf 9)) = some y0 := hf 0 _ rfl
    rw [cells_string] at f0
    obtain ⟨n0, e0, _, w0⟩ := DataW.trod_string Tryd.underlying9 f0
    have e0 : R 0 = .string n0 := List.head_eq_of_cons_eq e0
    have f1 : DataW.trod enc Tryd.prog w 0 sp held n 3 (([R 0, R 1, R 2, R 3, R 4].drop 1).take (Tryd.prog.cellsOf 3)) = some y1 := hf 1 _ rfl
    rw [cells_int] at f1
    obtain ⟨n1, e1, _, w1⟩ := DataW.trod_int Tryd.underlying3 f1
    have e1 : R 1 = .int .i64 n1 := List.head_eq_of_cons_eq e1
    have f2 : DataW.trod enc Tryd.prog w 0 sp held n 52 (([R 0, R 1, R 2, R 3, R 4].drop 2).take (Tryd.prog.cellsOf 52)) = some y2 := hf 2 _ rfl
    have f3 : DataW.trod enc Tryd.prog w 0 sp held n 52 (([R 0, R 1, R 2, R 3, R 4].drop 3).take (Tryd.prog.cellsOf 52)) = some y3 := hf 3 _ rfl
    have f4 : DataW.trod enc Tryd.prog w 0 sp held n 53 (([R 0, R 1, R 2, R 3, R 4].drop 4).take (Tryd.prog.cellsOf 53)) = some y4 := hf 4 _ rfl
    have L2 : Light 52 y2.1 := fun q hq => hl q (by
      rw [hy]
      simp only [DataW.weights, Tryd.underlying55]
      exact DataW.weights_mem_each (j := 2) rfl rfl q hq)
    rw [show Tryd.prog.cellsOf 52 = 1 by kernel_rfl] at f2
    rw [show (([R 0, R 1, R 2, R 3, R 4].drop 2).take 1) = [R 2] from rfl] at f2
    have L3 : Light 52 y3.1 := fun q hq => hl q (by
      rw [hy]
      simp only [DataW.weights, Tryd.underlying55]
      exact DataW.weights_mem_each (j := 3) rfl rfl q hq)
    rw [show Tryd.prog.cellsOf 52 = 1 by kernel_rfl] at f3
    rw [show (([R 0, R 1, R 2, R 3, R 4].drop 3).take 1) = [R 3] from rfl] at f3
    have L4 : Light 53 y4.1 := fun q hq => hl q (by
      rw [hy]
      simp only [DataW.weights, Tryd.underlying55]
      exact DataW.weights_mem_each (j := 4) rfl rfl q hq)
    rw [show Tryd.prog.cellsOf 53 = 1 by kernel_rfl] at f4
    rw [show (([R 0, R 1, R 2, R 3, R 4].drop 4).take 1) = [R 4] from rfl] at f4
    obtain ⟨l2, g2⟩ := strs_open f2 L2
    obtain ⟨l3, g3⟩ := strs_open f3 L3
    obtain ⟨l4, g4⟩ := ints_open f4 L4
    exact ⟨⟨n0, n1, l2, l3, l4⟩, e0, e1, g2, g3, g4⟩
theorem cells_func : Tryd.prog.cellsOf 51 = 6 := by kernel_rfl
theorem bytes_func : Tryd.prog.bytesOf 51 = 104 := by kernel_rfl
theorem funcs_open {fuel : Nat} {v : Value} {x : DataW H × List MemPlace} (h : DataW.trod enc Tryd.prog w 0 sp held fuel 22 [v] = some x) (hl : Light 22 x.1) : ∃ l : List PF, FuncsAt w v l ∧ ∀ f ∈ l, InB f := by
  obtain ⟨n, R, D, h1, h2⟩ := sl_open Tryd.underlying22 cells_func (by decide) bytes_func h hl
  obtain ⟨l, rfl, h4⟩ := list_of n (fun i hi => (h2 i hi).1.elim fun m q => q.elim fun y q => func_row q (h2 i hi).2)
  refine ⟨l, ⟨R, h1, fun i f hf => (h4 i f hf).1⟩, fun x hx => ?_⟩
  obtain ⟨i, hi⟩ := List.getElem?_of_mem hx
  exact (h4 i x hi).2
theorem cells_kind : Tryd.prog.cellsOf 55 = 5 := by kernel_rfl
theorem bytes_kind : Tryd.prog.bytesOf 55 = 96 := by kernel_rfl
theorem kinds_open {fuel : Nat} {v : Value} {x : DataW H × List MemPlace} (h : DataW.trod enc Tryd.prog w 0 sp held fuel 24 [v] = some x) (hl : Light 24 x.1) : ∃ l : List PK, KindsAt w v l := by
  obtain ⟨n, R, D, h1, h2⟩ := sl_open Tryd.underlying24 cells_kind (by decide) bytes_kind h hl
  obtain ⟨l, rfl, h4⟩ := list_of n (fun i hi => (h2 i hi).1.elim fun m q => q.elim fun y q => kind_row q (h2 i hi).2)
  exact ⟨l, R, h1, fun i f hf => h4 i f hf⟩
theorem image_row {fuel : Nat} {R : Nat → Value} {y : DataW H × List MemPlace} (h : DataW.trod enc Tryd.prog w 0 sp held fuel 26 ((List.range 3).map R) = some y) (hl : Light 26 y.1) : ∃ m : PM, ImgIs w (R 0) (R 1) (R 2) m ∧ InM m := by
  rw [show (List.range 3).map R = [R 0, R 1, R 2] from rfl] at h
  obtain ⟨ys, n, _, hy, _, hyl, hf⟩ := DataW.trod_struct Tryd.underlying26 h
  match ys, hyl with
  | [y0, y1, y2], _ =>
    have f0 : DataW.trod enc Tryd.prog w 0 sp held n 22 (([R 0, R 1, R 2].drop 0).take (Tryd.prog.cellsOf 22)) = some y0 := hf 0 _ rfl
    have f1 : DataW.trod enc Tryd.prog w 0 sp held n 23 (([R 0, R 1, R 2].drop 1).take (Tryd.prog.cellsOf 23)) = some y1 := hf 1 _ rfl
    have f2 : DataW.trod enc Tryd.prog w 0 sp held n 24 (([R 0, R 1, R 2].drop 2).take (Tryd.prog.cellsOf 24)) = some y2 := hf 2 _ rfl
    have L0 : Light 22 y0.1 := fun q hq => hl q (by
      rw [hy]
      simp only [DataW.weights, Tryd.underlying26]
      exact DataW.weights_mem_each (j := 0) rfl rfl q hq)
    rw [show Tryd.prog.cellsOf 22 = 1 by kernel_rfl] at f0
    rw [show (([R 0, R 1, R 2].drop 0).take 1) = [R 0] from rfl] at f0
    have L1 : Light 23 y1.1 := fun q hq => hl q (by
      rw [hy]
      simp only [DataW.weights, Tryd.underlying26]
      exact DataW.weights_mem_each (j := 1) rfl rfl q hq)
    rw [show Tryd.prog.cellsOf 23 = 1 by kernel_rfl] at f1
    rw [show (([R 0, R 1, R 2].drop 1).take 1) = [R 1] from rfl] at f1
    have L2 : Light 24 y2.1 := fun q hq => hl q (by
      rw [hy]
      simp only [DataW.weights, Tryd.underlying26]
      exact DataW.weights_mem_each (j := 2) rfl rfl q hq)
    rw [show Tryd.prog.cellsOf 24 = 1 by kernel_rfl] at f2
    rw [show (([R 0, R 1, R 2].drop 2).take 1) = [R 2] from rfl] at f2
    obtain ⟨l0, g0, g1⟩ := funcs_open f0 L0
    obtain ⟨l1, g2⟩ := consts_open f1 L1
    obtain ⟨l2, g3⟩ := kinds_open f2 L2
    exact ⟨⟨l0, l1, l2⟩, ⟨g0, g2, g3⟩, g1⟩
end
end Go.Proofs.YtkafldkhmkdafaaDoor
