/-
  An image that is handed in: opened.
  What may not be: vm.New tells as the document does.
-/
import Derived.Test.YtcbgcjkcfolcoaaDoorM20
import Derived.Deep.Slices
import Derived.SizedLaws
namespace Go.Proofs.YtcbgcjkcfolcoaaDoor
open Go.RowKit Go.ChangeShapes Go.Deep

theorem list_of {α : Type} {p : Nat → α → Prop} : ∀ n, (∀ i, i < n → ∃ a, p i a) → ∃ l : List α, l.length = n ∧ ∀ i a, l[i]? = some a → p i a
  | 0, _ => ⟨[], rfl, fun i a h => by simp at h⟩
  | n + 1, h => by
    obtain ⟨l, h1, h2⟩ := list_of n (fun i hi => h i (by omega))
    obtain ⟨a, ha⟩ := h n (by omega)
    refine ⟨l ++ [a], by simp [h1], fun i b hb => ?_⟩
    by_cases hi : i < l.length
    · rw [List.getElem?_append_left hi] at hb
      exact h2 i b hb
    · rw [List.getElem?_append_right (by omega)] at hb
      have : i - l.length = 0 := by
        have := (List.getElem?_eq_some_iff.1 hb).1
        simp at this
        omega
      rw [this] at hb
      simp at hb
      subst hb
      have : i = n := by omega
      rw [this]
      exact ha
theorem SlAt.turn {w : World} {v : Value} {n k b : Nat} {R R' : Nat → Nat → Value} (h : SlAt w v n k b R) (hR : ∀ i, i < n → ∀ j, j < k → R i j = R' i j) : SlAt w v n k b R' := by
  obtain ⟨g, cap, h1, h2, h3⟩ := h
  refine ⟨g, cap, h1, h2, fun i hi => ?_⟩
  obtain ⟨q, o, h4, h5⟩ := h3 i hi
  exact ⟨q, o, h4, fun j hj => by rw [h5 j hj, hR i hi j hj]⟩

section
variable {H : Type} {enc : TypeId × Value → H} {w : World} {sp : Nat → Bool} {held : Bool}

/-- A datum's rows are not too long. -/
def Light (t : TypeId) (d : DataW H) : Prop := ∀ n ∈ d.weights Tryd.prog t, n ≤ 140737488355328
theorem weightsAll_mem {e : TypeId} : ∀ {l : List (DataW H)} {d : DataW H}, d ∈ l → ∀ n ∈ d.weights Tryd.prog e, n ∈ DataW.weightsAll Tryd.prog e l
  | x :: r, d, h, n, hn => by
    rw [DataW.weightsAll, List.mem_append]
    rcases List.mem_cons.1 h with rfl | h
    · exact Or.inl hn
    · exact Or.inr (weightsAll_mem h n hn)
theorem int_top {n : Int} (h : (IntKind.i64.min ≤ n ∧ n ≤ IntKind.i64.max)) : n ≤ 9223372036854775807 := h.2
theorem cell_spot {w : World} {a : Addr} {v : Value} (h : w.cell? a = some v) : a.spot = none := by
  unfold World.cell? at h
  split at h
  · split at h
    · cases h
    · rename_i hh
      simpa using hh
  · cases h
theorem sl_open {t e : TypeId} {k by_ : Nat} (ht : Tryd.prog.underlying t = some (.slice e)) (hc : Tryd.prog.cellsOf e = k) (hk : 0 < k) (hby : Tryd.prog.bytesOf e = by_) {fuel : Nat} {v : Value} {x : DataW H × List MemPlace}
    (h : DataW.trod enc Tryd.prog w 0 sp held fuel t [v] = some x) (hl : Light t x.1) :
    ∃ (n : Nat) (R : Nat → Nat → Value) (D : Nat → DataW H), SlAt w v n k by_ R ∧ ∀ i, i < n → (∃ m y, DataW.trod enc Tryd.prog w 0 sp held m e ((List.range k).map (R i)) = some (D i, y)) ∧ Light e (D i) := by
  rcases open_slice ht h with ⟨h0, rfl⟩ | ⟨a, len, cap, m, n, D, Pl, hcs, hb, hle, hcap, hm, rfl, hx⟩
  · cases h0
    exact ⟨0, fun _ _ => undef, fun _ => .nil, ⟨none, 0, rfl, by omega, fun i hi => absurd hi (Nat.not_lt_zero i)⟩, fun i hi => absurd hi (Nat.not_lt_zero i)⟩
  · cases hcs
    have hlm : len ≤ m := by rw [hm]; split <;> omega
    rw [hc] at hx
    unfold Light at hl
    simp only [DataW.weights, ht, hby, List.length_map, List.length_range] at hl
    have h1 := hl _ (List.mem_cons_self ..)
    have cell : ∀ i, i < len → ∀ j, j < k → ∃ u, w.cell? (a.add (i * k + j)) = some u := fun i hi j hj => by
      obtain ⟨cs', q1, _⟩ := hx i (by omega)
      obtain ⟨_, q2, q3⟩ := World.cells?_some q1
      have := q3 j hj
      rw [add_add, List.getElem?_eq_getElem (by omega)] at this
      exact ⟨_, this⟩
    have spot : 0 < len → a = ⟨a.block, a.off, none⟩ := fun hp => by
      obtain ⟨u, hu⟩ := cell 0 hp 0 hk
      have := cell_spot hu
      rw [show 0 * k + 0 = 0 by omega, show a.add 0 = a from rfl] at this
      cases a
      simp_all
    refine ⟨len, fun i j => (w.cell? (a.add (i * k + j))).getD undef, D, ⟨some a, cap, rfl, ?_, fun i hi => ⟨a.block, a.off, by rw [← spot (by omega)], fun j hj => ?_⟩⟩, fun i hi => ⟨?_, ?_⟩⟩
    · exact Nat.le_trans (Nat.mul_le_mul_right _ (by omega)) h1
    · obtain ⟨u, hu⟩ := cell i hi j hj
      have e : (⟨a.block, a.off + i * k + j, none⟩ : Addr) = a.add (i * k + j) := by
        have hs := congrArg Addr.spot (spot (by omega))
        unfold Addr.add
        split
        · rename_i q
          cases a
          simp_all
        · simp
      show _ = some ((w.cell? (a.add (i * k + j))).getD undef)
      rw [e, hu]
      rfl
    · obtain ⟨cs', q1, q2⟩ := hx i (by omega)
      obtain ⟨_, q3, q4⟩ := World.cells?_some q1
      refine ⟨n, Pl i, ?_⟩
      have e : (List.range k).map (fun j => (w.cell? (a.add (i * k + j))).getD undef) = cs' := ?_
      · rw [e]
        exact q2
      apply List.ext_getElem?
      intro j
      by_cases hj : j < k
      · rw [List.getElem?_map, List.getElem?_range hj, ← q4 j hj, add_add]
        obtain ⟨u, hu⟩ := cell i hi j hj
        simp [hu]
      · rw [List.getElem?_eq_none (by simp; omega), List.getElem?_eq_none (by omega)]
    · intro n' hn'
      refine hl n' (List.mem_cons_of_mem _ (List.mem_append_left _ (weightsAll_mem (List.mem_map.2 ⟨i, List.mem_range.2 hi, rfl⟩) n' hn')))
theorem cells_int : Tryd.prog.cellsOf 3 = 1 := by kernel_rfl
theorem cells_string : Tryd.prog.cellsOf 9 = 1 := by kernel_rfl
theorem cells_bool : Tryd.prog.cellsOf 4 = 1 := by kernel_rfl
theorem instr_row {fuel : Nat} {R : Nat → Value} {y : DataW H × List MemPlace} (h : DataW.trod enc Tryd.prog w 0 sp held fuel 87 ((List.range 3).map R) = some y) : ∃ x : PI, R 0 = .int .i64 x.op ∧ R 1 = .int .i64 x.a ∧ R 2 = .int .i64 x.b ∧ x.b ≤ 9223372036854775807 := by
  rw [show (List.range 3).map R = [R 0, R 1, R 2] from rfl] at h
  obtain ⟨ys, n, _, hy, _, hyl, hf⟩ := DataW.trod_struct Tryd.underlying87 h
  match ys, hyl with
  | [y0, y1, y2], _ =>
    have f0 : DataW.trod enc Tryd.prog w 0 sp held n 3 (([R 0, R 1, R 2].drop 0).take (Tryd.prog.cellsOf 3)) = some y0 := hf 0 _ rfl
    rw [cells_int] at f0
    obtain ⟨n0, e0, _, w0⟩ := DataW.trod_int Tryd.underlying3 f0
    have e0 : R 0 = .int .i64 n0 := List.head_eq_of_cons_eq e0
    have f1 : DataW.trod enc Tryd.prog w 0 sp held n 3 (([R 0, R 1, R 2].drop 1).take (Tryd.prog.cellsOf 3)) = some y1 := hf 1 _ rfl
    rw [cells_int] at f1
    obtain ⟨n1, e1, _, w1⟩ := DataW.trod_int Tryd.underlying3 f1
    have e1 : R 1 = .int .i64 n1 := List.head_eq_of_cons_eq e1
    have f2 : DataW.trod enc Tryd.prog w 0 sp held n 3 (([R 0, R 1, R 2].drop 2).take (Tryd.prog.cellsOf 3)) = some y2 := hf 2 _ rfl
    rw [cells_int] at f2
    obtain ⟨n2, e2, _, w2⟩ := DataW.trod_int Tryd.underlying3 f2
    have e2 : R 2 = .int .i64 n2 := List.head_eq_of_cons_eq e2
    simp only [Lit.wf, Bool.and_eq_true, decide_eq_true_eq] at w2
    exact ⟨⟨n0, n1, n2⟩, e0, e1, e2, int_top w2⟩
theorem cells_instr : Tryd.prog.cellsOf 87 = 3 := by kernel_rfl
theorem bytes_instr : Tryd.prog.bytesOf 87 = 24 := by kernel_rfl
theorem instrs_open {fuel : Nat} {v : Value} {x : DataW H × List MemPlace} (h : DataW.trod enc Tryd.prog w 0 sp held fuel 47 [v] = some x) (hl : Light 47 x.1) : ∃ l : List PI, InstrsAt w v l ∧ ∀ x ∈ l, x.b ≤ 9223372036854775807 := by
  obtain ⟨n, R, D, h1, h2⟩ := sl_open Tryd.underlying47 cells_instr (by decide) bytes_instr h hl
  obtain ⟨l, rfl, h4⟩ := list_of n (fun i hi => (h2 i hi).1.elim fun m q => q.elim fun y q => instr_row q)
  refine ⟨l, h1.turn fun i hi j hj => by
    have q := h4 i _ (List.getElem?_eq_getElem hi)
    rw [instrRow, List.getElem?_eq_getElem hi]
    match j, hj with
    | 0, _ => exact q.1
    | 1, _ => exact q.2.1
    | 2, _ => exact q.2.2.1, fun x hx => ?_⟩
  obtain ⟨i, hi⟩ := List.getElem?_of_mem hx
  exact (h4 i x hi).2.2.2
theorem hand_row {fuel : Nat} {R : Nat → Value} {y : DataW H × List MemPlace} (h : DataW.trod enc Tryd.prog w 0 sp held fuel 90 ((List.range 3).map R) = some y) : ∃ x : PH, R 0 = .int .i64 x.fr ∧ R 1 = .int .i64 x.to ∧ R 2 = .int .i64 x.tg := by
  rw [show (List.range 3).map R = [R 0, R 1, R 2] from rfl] at h
  obtain ⟨ys, n, _, hy, _, hyl, hf⟩ := DataW.trod_struct Tryd.underlying90 h
  match ys, hyl with
  | [y0, y1, y2], _ =>
    have f0 : DataW.trod enc Tryd.prog w 0 sp held n 3 (([R 0, R 1, R 2].drop 0).take (Tryd.prog.cellsOf 3)) = some y0 := hf 0 _ rfl
    rw [cells_int] at f0
    obtain ⟨n0, e0, _, w0⟩ := DataW.trod_int Tryd.underlying3 f0
    have e0 : R 0 = .int .i64 n0 := List.head_eq_of_cons_eq e0
    have f1 : DataW.trod enc Tryd.prog w 0 sp held n 3 (([R 0, R 1, R 2].drop 1).take (Tryd.prog.cellsOf 3)) = some y1 := hf 1 _ rfl
    rw [cells_int] at f1
    obtain ⟨n1, e1, _, w1⟩ := DataW.trod_int Tryd.underlying3 f1
    have e1 : R 1 = .int .i64 n1 := List.head_eq_of_cons_eq e1
    have f2 : DataW.trod enc Tryd.prog w 0 sp held n 3 (([R 0, R 1, R 2].drop 2).take (Tryd.prog.cellsOf 3)) = some y2 := hf 2 _ rfl
    rw [cells_int] at f2
    obtain ⟨n2, e2, _, w2⟩ := DataW.trod_int Tryd.underlying3 f2
    have e2 : R 2 = .int .i64 n2 := List.head_eq_of_cons_eq e2
    exact ⟨⟨n0, n1, n2⟩, e0, e1, e2⟩
theorem cells_hand : Tryd.prog.cellsOf 90 = 3 := by kernel_rfl
theorem bytes_hand : Tryd.prog.bytesOf 90 = 24 := by kernel_rfl
theorem hands_open {fuel : Nat} {v : Value} {x : DataW H × List MemPlace} (h : DataW.trod enc Tryd.prog w 0 sp held fuel 48 [v] = some x) (hl : Light 48 x.1) : ∃ l : List PH, HandsAt w v l := by
  obtain ⟨n, R, D, h1, h2⟩ := sl_open Tryd.underlying48 cells_hand (by decide) bytes_hand h hl
  obtain ⟨l, rfl, h4⟩ := list_of n (fun i hi => (h2 i hi).1.elim fun m q => q.elim fun y q => hand_row q)
  exact ⟨l, h1.turn fun i hi j hj => by
    have q := h4 i _ (List.getElem?_eq_getElem hi)
    rw [handRow, List.getElem?_eq_getElem hi]
    match j, hj with
    | 0, _ => exact q.1
    | 1, _ => exact q.2.1
    | 2, _ => exact q.2.2⟩
theorem var_row {fuel : Nat} {R : Nat → Value} {y : DataW H × List MemPlace} (h : DataW.trod enc Tryd.prog w 0 sp held fuel 93 ((List.range 5).map R) = some y) : ∃ x : PV, R 0 = .string x.name ∧ R 1 = .int .i64 x.slot ∧ R 2 = .int .i64 x.fr ∧ R 3 = .int .i64 x.to ∧ R 4 = .bool x.boxed := by
  rw [show (List.range 5).map R = [R 0, R 1, R 2, R 3, R 4] from rfl] at h
  obtain ⟨ys, n, _, hy, _, hyl, hf⟩ := DataW.trod_struct Tryd.underlying93 h
  match ys, hyl with
  | [y0, y1, y2, y3, y4], _ =>
    have f0 : DataW.trod enc Tryd.prog w 0 sp held n 9 (([R 0, R 1, R 2, R 3, R 4].drop 0).take (Tryd.prog.cellsOf 9)) = some y0 := hf 0 _ rfl
    rw [cells_string] at f0
    obtain ⟨n0, e0, _, w0⟩ := DataW.trod_string Tryd.underlying9 f0
    have e0 : R 0 = .string n0 := List.head_eq_of_cons_eq e0
    have f1 : DataW.trod enc Tryd.prog w 0 sp held n 3 (([R 0, R 1, R 2, R 3, R 4].drop 1).take (Tryd.prog.cellsOf 3)) = some y1 := hf 1 _ rfl
    rw [cells_int] at f1
    obtain ⟨n1, e1, _, w1⟩ := DataW.trod_int Tryd.underlying3 f1
    have e1 : R 1 = .int .i64 n1 := List.head_eq_of_cons_eq e1
    have f2 : DataW.trod enc Tryd.prog w 0 sp held n 3 (([R 0, R 1, R 2, R 3, R 4].drop 2).take (Tryd.prog.cellsOf 3)) = some y2 := hf 2 _ rfl
    rw [cells_int] at f2
    obtain ⟨n2, e2, _, w2⟩ := DataW.trod_int Tryd.underlying3 f2
    have e2 : R 2 = .int .i64 n2 := List.head_eq_of_cons_eq e2
    have f3 : DataW.trod enc Tryd.prog w 0 sp held n 3 (([R 0, R 1, R 2, R 3, R 4].drop 3).take (Tryd.prog.cellsOf 3)) = some y3 := hf 3 _ rfl
    rw [cells_int] at f3
    obtain ⟨n3, e3, _, w3⟩ := DataW.trod_int Tryd.underlying3 f3
    have e3 : R 3 = .int .i64 n3 := List.head_eq_of_cons_eq e3
    have f4 : DataW.trod enc Tryd.prog w 0 sp held n 4 (([R 0, R 1, R 2, R 3, R 4].drop 4).take (Tryd.prog.cellsOf 4)) = some y4 := hf 4 _ rfl
    rw [cells_bool] at f4
    obtain ⟨n4, e4, _⟩ := DataW.trod_bool Tryd.underlying4 f4
    have e4 : R 4 = .bool n4 := List.head_eq_of_cons_eq e4
    exact ⟨⟨n0, n1, n2, n3, n4⟩, e0, e1, e2, e3, e4⟩
theorem cells_var : Tryd.prog.cellsOf 93 = 5 := by kernel_rfl
theorem bytes_var : Tryd.prog.bytesOf 93 = 48 := by kernel_rfl
theorem vars_open {fuel : Nat} {v : Value} {x : DataW H × List MemPlace} (h : DataW.trod enc Tryd.prog w 0 sp held fuel 49 [v] = some x) (hl : Light 49 x.1) : ∃ l : List PV, VarsAt w v l := by
  obtain ⟨n, R, D, h1, h2⟩ := sl_open Tryd.underlying49 cells_var (by decide) bytes_var h hl
  obtain ⟨l, rfl, h4⟩ := list_of n (fun i hi => (h2 i hi).1.elim fun m q => q.elim fun y q => var_row q)
  exact ⟨l, h1.turn fun i hi j hj => by
    have q := h4 i _ (List.getElem?_eq_getElem hi)
    rw [varRow, List.getElem?_eq_getElem hi]
    match j, hj with
    | 0, _ => exact q.1
    | 1, _ => exact q.2.1
    | 2, _ => exact q.2.2.1
    | 3, _ => exact q.2.2.2.1
    | 4, _ => exact q.2.2.2.2⟩
theorem const_row {fuel : Nat} {R : Nat → Value} {y : DataW H × List MemPlace} (h : DataW.trod enc Tryd.prog w 0 sp held fuel 84 ((List.range 3).map R) = some y) : ∃ x : PC, R 0 = .bool x.text ∧ R 1 = .string x.s ∧ R 2 = .int .i64 x.n := by
  rw [show (List.range 3).map R = [R 0, R 1, R 2] from rfl] at h
  obtain ⟨ys, n, _, hy, _, hyl, hf⟩ := DataW.trod_struct Tryd.underlying84 h
  match ys, hyl with
  | [y0, y1, y2], _ =>
    have f0 : DataW.trod enc Tryd.prog w 0 sp held n 4 (([R 0, R 1, R 2].drop 0).take (Tryd.prog.cellsOf 4)) = some y0 := hf 0 _ rfl
    rw [cells_bool] at f0
    obtain ⟨n0, e0, _⟩ := DataW.trod_bool Tryd.underlying4 f0
    have e0 : R 0 = .bool n0 := List.head_eq_of_cons_eq e0
    have f1 : DataW.trod enc Tryd.prog w 0 sp held n 9 (([R 0, R 1, R 2].drop 1).take (Tryd.prog.cellsOf 9)) = some y1 := hf 1 _ rfl
    rw [cells_string] at f1
    obtain ⟨n1, e1, _, w1⟩ := DataW.trod_string Tryd.underlying9 f1
    have e1 : R 1 = .string n1 := List.head_eq_of_cons_eq e1
    have f2 : DataW.trod enc Tryd.prog w 0 sp held n 3 (([R 0, R 1, R 2].drop 2).take (Tryd.prog.cellsOf 3)) = some y2 := hf 2 _ rfl
    rw [cells_int] at f2
    obtain ⟨n2, e2, _, w2⟩ := DataW.trod_int Tryd.underlying3 f2
    have e2 : R 2 = .int .i64 n2 := List.head_eq_of_cons_eq e2
    exact ⟨⟨n0, n1, n2⟩, e0, e1, e2⟩
theorem cells_const : Tryd.prog.cellsOf 84 = 3 := by kernel_rfl
theorem bytes_const : Tryd.prog.bytesOf 84 = 32 := by kernel_rfl
theorem consts_open {fuel : Nat} {v : Value} {x : DataW H × List MemPlace} (h : DataW.trod enc Tryd.prog w 0 sp held fuel 23 [v] = some x) (hl : Light 23 x.1) : ∃ l : List PC, ConstsAt w v l := by
  obtain ⟨n, R, D, h1, h2⟩ := sl_open Tryd.underlying23 cells_const (by decide) bytes_const h hl
  obtain ⟨l, rfl, h4⟩ := list_of n (fun i hi => (h2 i hi).1.elim fun m q => q.elim fun y q => const_row q)
  exact ⟨l, h1.turn fun i hi j hj => by
    have q := h4 i _ (List.getElem?_eq_getElem hi)
    rw [constRow, List.getElem?_eq_getElem hi]
    match j, hj with
    | 0, _ => exact q.1
    | 1, _ => exact q.2.1
    | 2, _ => exact q.2.2⟩
theorem bytes_string : Tryd.prog.bytesOf 9 = 16 := by kernel_rfl
theorem strs_open {fuel : Nat} {v : Value} {x : DataW H × List MemPlace} (h : DataW.trod enc Tryd.prog w 0 sp held fuel 52 [v] = some x) (hl : Light 52 x.1) : ∃ l : List ByteArray, StrsAt w v l := by
  obtain ⟨n, R, D, h1, h2⟩ := sl_open Tryd.underlying52 cells_string (by decide) bytes_string h hl
  obtain ⟨l, rfl, h4⟩ := list_of (p := fun i (x : ByteArray) => R i 0 = .string x) n (fun i hi => by
    obtain ⟨⟨m, y, q⟩, _⟩ := h2 i hi
    rw [show (List.range 1).map (R i) = [R i 0] from rfl] at q
    obtain ⟨n, e, _⟩ := DataW.trod_string Tryd.underlying9 q
    exact ⟨n, List.head_eq_of_cons_eq e⟩)
  exact ⟨l, h1.turn fun i hi j hj => by
    have q := h4 i _ (List.getElem?_eq_getElem hi)
    rw [strRow, List.getElem?_eq_getElem hi]
    match j, hj with
    | 0, _ => exact q⟩
theorem bytes_int : Tryd.prog.bytesOf 3 = 8 := by kernel_rfl
theorem ints_open {fuel : Nat} {v : Value} {x : DataW H × List MemPlace} (h : DataW.trod enc Tryd.prog w 0 sp held fuel 27 [v] = some x) (hl : Light 27 x.1) : ∃ l : List Int, IntsAt w v l := by
  obtain ⟨n, R, D, h1, h2⟩ := sl_open Tryd.underlying27 cells_int (by decide) bytes_int h hl
  obtain ⟨l, rfl, h4⟩ := list_of (p := fun i (x : Int) => R i 0 = .int .i64 x) n (fun i hi => by
    obtain ⟨⟨m, y, q⟩, _⟩ := h2 i hi
    rw [show (List.range 1).map (R i) = [R i 0] from rfl] at q
    obtain ⟨n, e, _⟩ := DataW.trod_int Tryd.underlying3 q
    exact ⟨n, List.head_eq_of_cons_eq e⟩)
  exact ⟨l, h1.turn fun i hi j hj => by
    have q := h4 i _ (List.getElem?_eq_getElem hi)
    rw [intRow, List.getElem?_eq_getElem hi]
    match j, hj with
    | 0, _ => exact q⟩
theorem func_row {fuel : Nat} {R : Nat → Value} {y : DataW H × List MemPlace} (h : DataW.trod enc Tryd.prog w 0 sp held fuel 51 ((List.range 6).map R) = some y) (hl : Light 51 y.1) : ∃ x : PF, FnIs w R x ∧ InB x := by
  rw [show (List.range 6).map R = [R 0, R 1, R 2, R 3, R 4, R 5] from rfl] at h
  obtain ⟨ys, n, _, hy, _, hyl, hf⟩ := DataW.trod_struct Tryd.underlying51 h
  match ys, hyl with
  | [y0, y1, y2, y3, y4, y5], _ =>
    have f0 : DataW.trod enc Tryd.prog w 0 sp held n 9 (([R 0, R 1, R 2, R 3, R 4, R 5].drop 0).take (Tryd.prog.cellsOf 9)) = some y0 := hf 0 _ rfl
    rw [cells_string] at f0
    obtain ⟨n0, e0, _, w0⟩ := DataW.trod_string Tryd.underlying9 f0
    have e0 : R 0 = .string n0 := List.head_eq_of_cons_eq e0
    have f1 : DataW.trod enc Tryd.prog w 0 sp held n 3 (([R 0, R 1, R 2, R 3, R 4, R 5].drop 1).take (Tryd.prog.cellsOf 3)) = some y1 := hf 1 _ rfl
    rw [cells_int] at f1
    obtain ⟨n1, e1, _, w1⟩ := DataW.trod_int Tryd.underlying3 f1
    have e1 : R 1 = .int .i64 n1 := List.head_eq_of_cons_eq e1
    have f2 : DataW.trod enc Tryd.prog w 0 sp held n 3 (([R 0, R 1, R 2, R 3, R 4, R 5].drop 2).take (Tryd.prog.cellsOf 3)) = some y2 := hf 2 _ rfl
    rw [cells_int] at f2
    obtain ⟨n2, e2, _, w2⟩ := DataW.trod_int Tryd.underlying3 f2
    have e2 : R 2 = .int .i64 n2 := List.head_eq_of_cons_eq e2
    have f3 : DataW.trod enc Tryd.prog w 0 sp held n 47 (([R 0, R 1, R 2, R 3, R 4, R 5].drop 3).take (Tryd.prog.cellsOf 47)) = some y3 := hf 3 _ rfl
    have f4 : DataW.trod enc Tryd.prog w 0 sp held n 48 (([R 0, R 1, R 2, R 3, R 4, R 5].drop 4).take (Tryd.prog.cellsOf 48)) = some y4 := hf 4 _ rfl
    have f5 : DataW.trod enc Tryd.prog w 0 sp held n 49 (([R 0, R 1, R 2, R 3, R 4, R 5].drop 5).take (Tryd.prog.cellsOf 49)) = some y5 := hf 5 _ rfl
    have L3 : Light 47 y3.1 := fun q hq => hl q (by
      rw [hy]
      simp only [DataW.weights, Tryd.underlying51]
      exact DataW.weights_mem_each (j := 3) rfl rfl q hq)
    rw [show Tryd.prog.cellsOf 47 = 1 by kernel_rfl] at f3
    rw [show (([R 0, R 1, R 2, R 3, R 4, R 5].drop 3).take 1) = [R 3] from rfl] at f3
    have L4 : Light 48 y4.1 := fun q hq => hl q (by
      rw [hy]
      simp only [DataW.weights, Tryd.underlying51]
      exact DataW.weights_mem_each (j := 4) rfl rfl q hq)
    rw [show Tryd.prog.cellsOf 48 = 1 by kernel_rfl] at f4
    rw [show (([R 0, R 1, R 2, R 3, R 4, R 5].drop 4).take 1) = [R 4] from rfl] at f4
    have L5 : Light 49 y5.1 := fun q hq => hl q (by
      rw [hy]
      simp only [DataW.weights, Tryd.underlying51]
      exact DataW.weights_mem_each (j := 5) rfl rfl q hq)
    rw [show Tryd.prog.cellsOf 49 = 1 by kernel_rfl] at f5
    rw [show (([R 0, R 1, R 2, R 3, R 4, R 5].drop 5).take 1) = [R 5] from rfl] at f5
    obtain ⟨l3, g3, g4⟩ := instrs_open f3 L3
    obtain ⟨l4, g5⟩ := hands_open f4 L4
    obtain ⟨l5, g6⟩ := vars_open f5 L5
    exact ⟨⟨n0, n1, n2, l3, l4, l5⟩, ⟨e0, e1, e2, g3, g5, g6⟩, g4⟩
theorem kind_row {fuel : Nat} {R : Nat → Value} {y : DataW H × List MemPlace} (h : DataW.trod enc Tryd.prog w 0 sp held fuel 54 ((List.range 5).map R) = some y) (hl : Light 54 y.1) : ∃ x : PK, KdIs w R x := by
  rw [show (List.range 5).map R = [R 0, R 1, R 2, R 3, R 4] from rfl] at h
  obtain ⟨ys, n, _, hy, _, hyl, hf⟩ := DataW.trod_struct Tryd.underlying54 h
  match ys, hyl with
  | [y0, y1, y2, y3, y4], _ =>
    have f0 : DataW.trod enc Tryd.prog w 0 sp held n 9 (([R 0, R 1, R 2, R 3, R 4].drop 0).take (Tryd.prog.cellsOf 9)) = some y0 := hf 0 _ rfl
    rw [cells_string] at f0
    obtain ⟨n0, e0, _, w0⟩ := DataW.trod_string Tryd.underlying9 f0
    have e0 : R 0 = .string n0 := List.head_eq_of_cons_eq e0
    have f1 : DataW.trod enc Tryd.prog w 0 sp held n 3 (([R 0, R 1, R 2, R 3, R 4].drop 1).take (Tryd.prog.cellsOf 3)) = some y1 := hf 1 _ rfl
    rw [cells_int] at f1
    obtain ⟨n1, e1, _, w1⟩ := DataW.trod_int Tryd.underlying3 f1
    have e1 : R 1 = .int .i64 n1 := List.head_eq_of_cons_eq e1
    have f2 : DataW.trod enc Tryd.prog w 0 sp held n 52 (([R 0, R 1, R 2, R 3, R 4].drop 2).take (Tryd.prog.cellsOf 52)) = some y2 := hf 2 _ rfl
    have f3 : DataW.trod enc Tryd.prog w 0 sp held n 52 (([R 0, R 1, R 2, R 3, R 4].drop 3).take (Tryd.prog.cellsOf 52)) = some y3 := hf 3 _ rfl
    have f4 : DataW.trod enc Tryd.prog w 0 sp held n 27 (([R 0, R 1, R 2, R 3, R 4].drop 4).take (Tryd.prog.cellsOf 27)) = some y4 := hf 4 _ rfl
    have L2 : Light 52 y2.1 := fun q hq => hl q (by
      rw [hy]
      simp only [DataW.weights, Tryd.underlying54]
      exact DataW.weights_mem_each (j := 2) rfl rfl q hq)
    rw [show Tryd.prog.cellsOf 52 = 1 by kernel_rfl] at f2
    rw [show (([R 0, R 1, R 2, R 3, R 4].drop 2).take 1) = [R 2] from rfl] at f2
    have L3 : Light 52 y3.1 := fun q hq => hl q (by
      rw [hy]
      simp only [DataW.weights, Tryd.underlying54]
      exact DataW.weights_mem_each (j := 3) rfl rfl q hq)
    rw [show Tryd.prog.cellsOf 52 = 1 by kernel_rfl] at f3
    rw [show (([R 0, R 1, R 2, R 3, R 4].drop 3).take 1) = [R 3] from rfl] at f3
    have L4 : Light 27 y4.1 := fun q hq => hl q (by
      rw [hy]
      simp only [DataW.weights, Tryd.underlying54]
      exact DataW.weights_mem_each (j := 4) rfl rfl q hq)
    rw [show Tryd.prog.cellsOf 27 = 1 by kernel_rfl] at f4
    rw [show (([R 0, R 1, R 2, R 3, R 4].drop 4).take 1) = [R 4] from rfl] at f4
    obtain ⟨l2, g2⟩ := strs_open f2 L2
    obtain ⟨l3, g3⟩ := strs_open f3 L3
    obtain ⟨l4, g4⟩ := ints_open f4 L4
    exact ⟨⟨n0, n1, l2, l3, l4⟩, e0, e1, g2, g3, g4⟩
theorem cells_func : Tryd.prog.cellsOf 51 = 6 := by kernel_rfl
theorem bytes_func : Tryd.prog.bytesOf 51 = 104 := by kernel_rfl
theorem funcs_open {fuel : Nat} {v : Value} {x : DataW H × List MemPlace} (h : DataW.trod enc Tryd.prog w 0 sp held fuel 22 [v] = some x) (hl : Light 22 x.1) : ∃ l : List PF, FuncsAt w v l ∧ ∀ f ∈ l, InB f := by
  obtain ⟨n, R, D, h1, h2⟩ := sl_open Tryd.underlying22 cells_func (by decide) bytes_func h hl
  obtain ⟨l, rfl, h4⟩ := list_of n (fun i hi => (h2 i hi).1.elim fun m q => q.elim fun y q => func_row q (h2 i hi).2)
  refine ⟨l, ⟨R, h1, fun i f hf => (h4 i f hf).1⟩, fun x hx => ?_⟩
  obtain ⟨i, hi⟩ := List.getElem?_of_mem hx
  exact (h4 i x hi).2
theorem cells_kind : Tryd.prog.cellsOf 54 = 5 := by kernel_rfl
theorem bytes_kind : Tryd.prog.bytesOf 54 = 96 := by kernel_rfl
theorem kinds_open {fuel : Nat} {v : Value} {x : DataW H × List MemPlace} (h : DataW.trod enc Tryd.prog w 0 sp held fuel 24 [v] = some x) (hl : Light 24 x.1) : ∃ l : List PK, KindsAt w v l := by
  obtain ⟨n, R, D, h1, h2⟩ := sl_open Tryd.underlying24 cells_kind (by decide) bytes_kind h hl
  obtain ⟨l, rfl, h4⟩ := list_of n (fun i hi => (h2 i hi).1.elim fun m q => q.elim fun y q => kind_row q (h2 i hi).2)
  exact ⟨l, R, h1, fun i f hf => h4 i f hf⟩
theorem image_row {fuel : Nat} {R : Nat → Value} {y : DataW H × List MemPlace} (h : DataW.trod enc Tryd.prog w 0 sp held fuel 26 ((List.range 3).map R) = some y) (hl : Light 26 y.1) : ∃ m : PM, ImgIs w (R 0) (R 1) (R 2) m ∧ InM m := by
  rw [show (List.range 3).map R = [R 0, R 1, R 2] from rfl] at h
  obtain ⟨ys, n, _, hy, _, hyl, hf⟩ := DataW.trod_struct Tryd.underlying26 h
  match ys, hyl with
  | [y0, y1, y2], _ =>
    have f0 : DataW.trod enc Tryd.prog w 0 sp held n 22 (([R 0, R 1, R 2].drop 0).take (Tryd.prog.cellsOf 22)) = some y0 := hf 0 _ rfl
    have f1 : DataW.trod enc Tryd.prog w 0 sp held n 23 (([R 0, R 1, R 2].drop 1).take (Tryd.prog.cellsOf 23)) = some y1 := hf 1 _ rfl
    have f2 : DataW.trod enc Tryd.prog w 0 sp held n 24 (([R 0, R 1, R 2].drop 2).take (Tryd.prog.cellsOf 24)) = some y2 := hf 2 _ rfl
    have L0 : Light 22 y0.1 := fun q hq => hl q (by
      rw [hy]
      simp only [DataW.weights, Tryd.underlying26]
      exact DataW.weights_mem_each (j := 0) rfl rfl q hq)
    rw [show Tryd.prog.cellsOf 22 = 1 by kernel_rfl] at f0
    rw [show (([R 0, R 1, R 2].drop 0).take 1) = [R 0] from rfl] at f0
    have L1 : Light 23 y1.1 := fun q hq => hl q (by
      rw [hy]
      simp only [DataW.weights, Tryd.underlying26]
      exact DataW.weights_mem_each (j := 1) rfl rfl q hq)
    rw [show Tryd.prog.cellsOf 23 = 1 by kernel_rfl] at f1
    rw [show (([R 0, R 1, R 2].drop 1).take 1) = [R 1] from rfl] at f1
    have L2 : Light 24 y2.1 := fun q hq => hl q (by
      rw [hy]
      simp only [DataW.weights, Tryd.underlying26]
      exact DataW.weights_mem_each (j := 2) rfl rfl q hq)
    rw [show Tryd.prog.cellsOf 24 = 1 by kernel_rfl] at f2
    rw [show (([R 0, R 1, R 2].drop 2).take 1) = [R 2] from rfl] at f2
    obtain ⟨l0, g0, g1⟩ := funcs_open f0 L0
    obtain ⟨l1, g2⟩ := consts_open f1 L1
    obtain ⟨l2, g3⟩ := kinds_open f2 L2
    exact ⟨⟨l0, l1, l2⟩, ⟨g0, g2, g3⟩, g1⟩
end
end Go.Proofs.YtcbgcjkcfolcoaaDoor

namespace Go.Proofs.YtcbgcjkcfolcoaaDoor
open Go.RowKit

theorem img_all {w : World} {b : Nat} {m : PM} {vf vc vk : Value} (h : ImgAt w b m vf vc vk) (hin : InM m) (hfine : FineAt w) :
    Calls Tryd.prog 6 #[.pointer (some ⟨b, 0, none⟩)] w fun e w' => IPost m w e w' := by
  cases hl : limitOk m with
  | false => exact img_limit h hl
  | true => exact img_any h hl hin hfine

theorem inp_small (inp : Int) : ∃ k : Nat, wrap64 ((IntKind.u64.wrap inp).tmod 200) = (k : Int) ∧ k < 200 := by
  have h0 : IntKind.u64.wrap inp = inp % 18446744073709551616 := by simp [IntKind.wrap, IntKind.signed, IntKind.bits]
  have h1 : 0 ≤ inp % 18446744073709551616 := Int.emod_nonneg _ (by decide)
  refine ⟨((inp % 18446744073709551616).tmod 200).toNat, ?_, ?_⟩
  · rw [h0, Int.tmod_eq_emod_of_nonneg h1]
    unfold wrap64
    omega
  · rw [Int.tmod_eq_emod_of_nonneg h1]
    omega
theorem ins_made (w : World) (k : Nat) (hk : k < 200) : IntsAt (w.alloc (.cells (madeCells #[.int .i64 0] k) 3)) (.slice (some ⟨w.heap.size, 0, none⟩) k k) (List.replicate k 0) := by
  obtain ⟨c, hb, hn, hc⟩ := World.rowIs_made w (.int .i64 0) k 3
  refine ⟨_, k, by rw [List.length_replicate], by rw [List.length_replicate]; omega, fun i hi => ⟨w.heap.size, 0, rfl, fun j hj => ?_⟩⟩
  rw [List.length_replicate] at hi
  obtain rfl : j = 0 := by omega
  rw [hcell hb, show 0 + i * 1 + 0 = i by omega, hc i hi, intRow, List.getElem?_replicate, if_pos hi]
theorem any_snoc {l : List Int} {k : Nat} {x : Int} (hx : l[k]? = some x) : (l.take (k + 1)).any collBad = ((l.take k).any collBad || collBad x) := by
  rw [List.take_add_one, hx, List.any_append]
  simp

set_option maxRecDepth 100000 in
set_option maxHeartbeats 8000000 in
theorem vmNews_any {w : World} {m : PM} {vf vc vk : Value} (h : ImgIs w vf vc vk m) (hin : InM m) (hfine : FineAt w) (hT : ErrT w) (nu old inp : Int) {vq : Value} {coll : List Int} (hq : IntsAt w vq coll) :
    Calls Tryd.prog 3 #[.agg #[vf, vc, vk], .int .i64 nu, .int .i64 old, vq, .int .i64 inp] w fun e w' => e = .returned (.bool true) ∧ Below w.heap.size w w' := by
  have H := hide h
  obtain ⟨RF, ⟨gf, capf, rfl, nf, rf⟩, hRF⟩ := h.funcs
  obtain ⟨gc, capc, rfl, nc, rc⟩ := h.consts
  obtain ⟨RK, ⟨gk, capk, rfl, nk, rk⟩, hRK⟩ := h.classes
  have HQ0 := hide hq
  obtain ⟨gq, cq, rfl, nq, rq⟩ := hq
  have HFN := hide hfine
  have HT := hide hT
  have HIN := hide hin
  have NQ := hide nq
  clear h hfine hT rf hRF rc rk hRK hin rq nf nc nk nq
  obtain ⟨wm, hwm⟩ : ∃ wm, w.alloc (.cells #[.slice gf m.funcs.length capf, .slice gc m.consts.length capc, .slice gk m.classes.length capk] 26) = wm := ⟨_, rfl⟩
  have HB := hide (show Below w.heap.size w wm by rw [← hwm]; exact (Below.refl _ _).alloc (Nat.le_refl _) _)
  have hkm : wm.heap[w.heap.size]? = some (.cells #[.slice gf m.funcs.length capf, .slice gc m.consts.length capc, .slice gk m.classes.length capk] 26 (0, 0)) := by rw [← hwm]; exact hnew _ _
  have HM := hide (show ImgAt wm w.heap.size m (.slice gf m.funcs.length capf) (.slice gc m.consts.length capc) (.slice gk m.classes.length capk) from ⟨hcell hkm 0, hcell hkm 1, hcell hkm 2, (unhide H).keep (unhide HB)⟩)
  have HQ := hide ((unhide HQ0).keep (unhide HB))
  have m0 := (unhide HM).c0
  have m1 := (unhide HM).c1
  have m2 := (unhide HM).c2
  clear hkm HQ0
  go_enter Tryd.func3, Tryd.ntmps3
  go_wp2_with fail
  clear m0 m1 m2 hwm
  refine (few_law (unhide HM).img).mono ?_
  rintro e w1 ⟨hb1, c, rfl, hc⟩
  have HB1 := hide ((unhide HB).trans (hb1.mono (unhide HB).size))
  have HM1 := hide ((unhide HM).keep hb1)
  have HQ1 := hide ((unhide HQ).keep hb1)
  cases c with
  | false =>
    clear hb1 hc
    go_wp2_with fail
    go_ret
    exact ⟨rfl, unhide HB1⟩
  | true =>
    obtain ⟨hF, hK, hL⟩ := hc rfl
    clear hb1 hc
    by_cases h60 : (60 : Int) < (coll.length : Int)
    · go_wp2_with fail
      go_ret
      exact ⟨rfl, unhide HB1⟩
    · obtain ⟨k, hk, hk2⟩ := inp_small inp
      have hmk := run_make_row' (P := Tryd.prog) 27 3 (.int .i64 0) 8 Tryd.underlying27 infoCInt rfl .i64 .i64 k (by omega) (by omega)
      go_wp2_with fail
      have HB2 := hide ((unhide HB1).alloc (unhide HB1).size (.cells (madeCells #[.int .i64 0] k) 3))
      have hbb : Below w1.heap.size w1 (w1.alloc (.cells (madeCells #[.int .i64 0] k) 3)) := (Below.refl _ _).alloc (Nat.le_refl _) _
      have HM2 := hide ((unhide HM1).keep hbb)
      have HQ2 := hide ((unhide HQ1).keep hbb)
      have HI2 := hide (ins_made w1 k hk2)
      clear hbb hmk
      refine (vmNew_any (unhide HM2) (unhide HIN) nu old (unhide HQ2) (unhide HI2)).mono ?_
      rintro e w3 ⟨hb3, v1, v2, n, p, n', p', rfl, hv, he, hr⟩
      rw [List.length_replicate] at hr
      have HB3 := hide ((unhide HB2).trans (hb3.mono (unhide HB2).size))
      have HM3 := hide ((unhide HM2).keep hb3)
      have HQ3 := hide ((unhide HQ2).keep hb3)
      have HV := hide hv
      have HE := hide he
      have HR := hide hr
      clear hb3 hv he hr HM2 HI2
      go_wp2_with fail
      refine (image_any (unhide HM3) hK hF hL).mono ?_
      rintro e w4 ⟨hb4, ib, vf', vc', vk', rfl, hi⟩
      have HB4 := hide ((unhide HB3).trans (hb4.mono (unhide HB3).size))
      have HI := hide hi
      have HE4 := hide ((unhide HE).keep hb4)
      have HQ4 := hide ((unhide HQ3).keep hb4)
      clear hb4 hi
      go_wp2_with fail
      refine (img_all (unhide HI) (unhide HIN) ((unhide HFN).keep (unhide HB4))).mono ?_
      rintro e w5 ⟨hb5, n5, p5, rfl, hv5⟩
      obtain ⟨rfl, rfl⟩ := (unhide HV).one hv5
      have HB5 := hide ((unhide HB4).trans (hb5.mono (unhide HB4).size))
      have HE5 := hide ((unhide HE4).keep hb5)
      have HQ5 := hide ((unhide HQ4).keep hb5)
      clear hb5 hv5
      by_cases hn : n = 0
      · subst hn
        have HRt : Hid (newBad nu old k coll = true → n' = 2 ∧ p' = -1 ∧ v1 = .pointer none) := fun q => by
          rcases unhide HR with ⟨e, _⟩ | ⟨_, _, e⟩ | ⟨_, e, _⟩
          · exact absurd rfl e
          · exact e
          · rw [q] at e; cases e
        have HRf : Hid (newBad nu old k coll = false → n' = 0 ∧ p' = p ∧ ∃ b, v1 = .pointer (some ⟨b, 0, none⟩)) := fun q => by
          rcases unhide HR with ⟨e, _⟩ | ⟨_, e, _⟩ | ⟨_, _, e⟩
          · exact absurd rfl e
          · rw [q] at e; cases e
          · exact e
        obtain ⟨wz, hwz⟩ : ∃ wz, w5.alloc (.cells #[.int .i64 0, .int .i64 p] 40) = wz := ⟨_, rfl⟩
        have hbz : Below w5.heap.size w5 wz := by rw [← hwz]; exact (Below.refl _ _).alloc (Nat.le_refl _) _
        have hkz : wz.heap[w5.heap.size]? = some (.cells #[.int .i64 0, .int .i64 p] 40 (0, 0)) := by rw [← hwz]; exact hnew _ _
        have HBZ := hide ((unhide HB5).trans (hbz.mono (unhide HB5).size))
        have HEZ := hide ((unhide HE5).keep hbz)
        have HQZ := hide ((unhide HQ5).keep hbz)
        have HKZ := hide hkz
        have HBZ5 := hide hbz
        have hlo : w.heap.size ≤ w5.heap.size := (unhide HB5).size
        have HLO := hide hlo
        have z0 : wz.cell? ⟨w5.heap.size, 0, none⟩ = some (.int .i64 0) := hcell hkz 0
        clear hbz hkz hlo
        go_wp2_with fail
        all_goals
          clear z0 hwz
          go_loopg [14, 15] coll.length (fun gg bd i wr => ∃ (j : Nat) (c : Bool), j ≤ coll.length ∧ gg = coll.length - j ∧ bd = .bool c ∧ i = .int .i64 j ∧ Hid (c = (roomBad nu old || decide ((100 : Int) < (k : Int)) || (coll.take j).any collBad)) ∧ wr = wz)
          case atStart => exact ⟨0, _, Nat.zero_le _, rfl, rfl, rfl, by show _ = _; first | (simp [roomBad]; done) | (simp [roomBad]; omega), rfl⟩
          case round =>
            obtain ⟨j, c, hj, rfl, rfl, rfl, HC, hwr⟩ := hrel
            by_cases hlj : j < coll.length
            · have hx : coll[j]? = some (coll[j]'hlj) := List.getElem?_eq_getElem _
              generalize (coll[j]'hlj) = x at *
              obtain ⟨gq', cq', eq', nq', rq'⟩ := unhide HQZ
              cases eq'
              obtain ⟨gb, go, rfl, hcq⟩ := rq' j hlj
              have c0 : wr.cell? ⟨gb, go + j, none⟩ = some (.int .i64 x) := by
                have := hcq 0 (by decide)
                rw [intRow, hx] at this
                rw [hwr]
                simpa using this
              have HX := hide hx
              have HWR := hide hwr
              have hj2 : (j : Int) < (coll.length : Int) := by omega
              clear hx hcq rq' nq' hwr
              cases c with
              | true =>
                go_wp2_with fail
                go_roundg (coll.length - (j + 1))
                case measure => omega
                case rel => exact ⟨j + 1, true, by omega, rfl, rfl, by go_num, by show _ = _; rw [any_snoc (unhide HX), ← Bool.or_assoc, ← unhide HC]; rfl, unhide HWR⟩
              | false =>
                by_cases hx1 : x < 0
                · go_wp2_with fail
                  go_roundg (coll.length - (j + 1))
                  case measure => omega
                  case rel => exact ⟨j + 1, true, by omega, rfl, rfl, by go_num, by show _ = _; rw [any_snoc (unhide HX), ← Bool.or_assoc, ← unhide HC]; simp [collBad, hx1], unhide HWR⟩
                · by_cases hx2 : 2 < x
                  · go_wp2_with fail
                    go_roundg (coll.length - (j + 1))
                    case measure => omega
                    case rel => exact ⟨j + 1, true, by omega, rfl, rfl, by go_num, by show _ = _; rw [any_snoc (unhide HX), ← Bool.or_assoc, ← unhide HC]; simp [collBad, hx2], unhide HWR⟩
                  · go_wp2_with fail
                    go_roundg (coll.length - (j + 1))
                    case measure => omega
                    case rel => exact ⟨j + 1, false, by omega, rfl, rfl, by go_num, by show _ = _; rw [any_snoc (unhide HX), ← Bool.or_assoc, ← unhide HC]; simp [collBad]; omega, unhide HWR⟩
            · obtain rfl : j = coll.length := by omega
              have hff : decide ((coll.length : Int) < (coll.length : Int)) = false := by simp
              have HNB : Hid (newBad nu old k coll = c) := by
                show newBad nu old k coll = c
                rw [unhide HC, List.take_length]
                unfold newBad
                rw [Bool.or_assoc]
                congr 2
                simp
                omega
              subst hwr
              clear hlj hj HC
              cases c with
              | true =>
                obtain ⟨rfl, rfl, rfl⟩ := unhide HRt (unhide HNB)
                go_wp2_with fail
                refine (bare_any 2 _).mono ?_
                rintro e w6 ⟨rfl, hb6⟩
                have HB6 := hide ((unhide HBZ).trans (hb6.mono (unhide HBZ).size))
                have hk6 := (hb6.block _ (hlt (unhide HKZ))).trans (unhide HKZ)
                have z0 := hcell hk6 0
                have z1 := hcell hk6 1
                have y0 := hfroz hk6 0
                have y1 := hfroz hk6 1
                have HB56 := hide ((unhide HBZ5).trans (hb6.mono (unhide HBZ5).size))
                have s1 : ∀ u, (w6.setCell ⟨w5.heap.size, 0, none⟩ u).cell? ⟨w5.heap.size, 1, none⟩ = some (.int .i64 p) := fun u => cell_off z1 (by decide)
                have s2 : ∀ u u', ((w6.setCell ⟨w5.heap.size, 0, none⟩ u).setCell ⟨w5.heap.size, 1, none⟩ u').cell? ⟨w5.heap.size, 0, none⟩ = some u := fun u u' => cell_off (World.cell?_setCell_same _ _ _ z0) (by decide)
                clear hb6 hk6
                go_wp2_with fail
                refine (at_any ((unhide HE5).keep (((unhide HB56).setCell (Nat.le_refl _) _).setCell (Nat.le_refl _) _)) ((unhide HT).keep (((unhide HB6).setCell (unhide HLO) _).setCell (unhide HLO) _)) 2 (-1)).mono ?_
                rintro e w7 ⟨rfl, hb7⟩
                have HB7 := hide ((((unhide HB6).setCell (unhide HLO) (.int .i64 2)).setCell (unhide HLO) (.int .i64 (-1))).trans (hb7.mono (((unhide HB6).setCell (unhide HLO) (.int .i64 2)).setCell (unhide HLO) (.int .i64 (-1))).size))
                have h22 : (((2 : Int) == 2) && ((-1 : Int) == -1)) = true := by decide
                rw [h22]
                have k7 : w7.cell? ⟨w5.heap.size, 0, none⟩ = some (.int .i64 2) := (hb7.cell (by have := cell_lt z0; simpa [World.setCell] using this)).trans (s2 _ _)
                clear hb7 z0 z1 y0 y1 s1 s2
                go_wp2_with fail
                go_ret
                exact ⟨rfl, unhide HB7⟩
              | false =>
                obtain ⟨rfl, rfl, bb, rfl⟩ := unhide HRf (unhide HNB)
                have z0 := hcell (unhide HKZ) 0
                have z1 := hcell (unhide HKZ) 1
                go_wp2_with fail
                refine (at_any (unhide HEZ) ((unhide HT).keep (unhide HBZ)) 0 p').mono ?_
                rintro e w6 ⟨rfl, hb6⟩
                have HB6 := hide ((unhide HBZ).trans (hb6.mono (unhide HBZ).size))
                have hnn : (((0 : Int) == 0) && (p' == p')) = true := by simp
                rw [hnn]
                have k6 : w6.cell? ⟨w5.heap.size, 0, none⟩ = some (.int .i64 0) := (hb6.cell (hlt (unhide HKZ))).trans z0
                clear hb6 z0 z1
                go_wp2_with fail
                go_ret
                exact ⟨rfl, unhide HB6⟩
      · have hb0 : (n == 0) = false := by rw [beq_eq_false_iff_ne]; exact hn
        have HR1 : Hid (n' = n ∧ p' = p ∧ v1 = .pointer none) := by
          rcases unhide HR with ⟨_, e⟩ | ⟨e, _⟩ | ⟨e, _⟩
          · exact e
          · exact absurd e hn
          · exact absurd e hn
        obtain ⟨rfl, rfl, rfl⟩ := unhide HR1
        clear HR HR1 hn
        go_wp2_with fail
        refine (at_any ((unhide HE5).keep ((Below.refl _ _).alloc (Nat.le_refl _) _)) ((unhide HT).keep ((unhide HB5).alloc (unhide HB5).size _)) n' p').mono ?_
        rintro e w6 ⟨rfl, hb6⟩
        have HB6 := hide (((unhide HB5).alloc (unhide HB5).size (.cells #[.int .i64 n', .int .i64 p'] 40)).trans (hb6.mono ((unhide HB5).alloc (unhide HB5).size (.cells #[.int .i64 n', .int .i64 p'] 40)).size))
        have hnn : ((n' == n') && (p' == p')) = true := by simp
        rw [hnn]
        have k6 : w6.cell? ⟨w5.heap.size, 0, none⟩ = some (.int .i64 n') := (hb6.cell (by simp)).trans (hcell (hnew _ _) 0)
        clear hb6
        go_wp2_with fail
        go_ret
        exact ⟨rfl, unhide HB6⟩
end Go.Proofs.YtcbgcjkcfolcoaaDoor
