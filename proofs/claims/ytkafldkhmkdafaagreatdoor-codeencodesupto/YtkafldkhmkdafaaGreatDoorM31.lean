/-
  An image that is handed in: opened.
-/
import Derived.Test.YtkafldkhmkdafaaGreatDoorM30
import Derived.Deep.Slices
import Derived.SizedLaws
namespace Go.Proofs.YtkafldkhmkdafaaGreatDoor
open Go.RowKit Go.ChangeShapes Go.Deep

theorem list_of {α : Type} {p : Nat → α → Prop} : ∀ n, (∀ i, i < n → ∃ a, p i a) → ∃ l : List α, l.length = n ∧ ∀ i a, l[i]? = some a → p i a
  | 0, _ => ⟨[], rfl, fun i a h => by simp at h⟩
  | n + 1, h => by
    obtain ⟨l, h1, h2⟩ := list_of n (fun i hi => h i (by omega))
    obtain ⟨a, ha⟩ := h n (by omega)
    refine ⟨l ++ [a], by simp [h1], fun i b hb => ?_⟩
    by_cases hi : i < l.length
    · rw [List.getElem?_append_left hi] at hb
      exact h2 i b hb
    · rw [List.getElem?_append_right (by omega)] at hb
      have : i - l.length = 0 := by
        have := (List.getElem?_eq_some_iff.1 hb).1
        simp at this
        omega
      rw [this] at hb
      simp at hb
      subst hb
      have : i = n := by omega
      rw [this]
      exact ha
theorem SlAt.turn {w : World} {v : Value} {n k b : Nat} {R R' : Nat → Nat → Value} (h : SlAt w v n k b R) (hR : ∀ i, i < n → ∀ j, j < k → R i j = R' i j) : SlAt w v n k b R' := by
  obtain ⟨g, cap, h1, h2, h3⟩ := h
  refine ⟨g, cap, h1, h2, fun i hi => ?_⟩
  obtain ⟨q, o, h4, h5⟩ := h3 i hi
  exact ⟨q, o, h4, fun j hj => by rw [h5 j hj, hR i hi j hj]⟩

theorem encU_len : ∀ (k u : Nat), u < 128 ^ (k + 1) → (encU u).length ≤ k + 1
  | 0, u, h => by rw [encU_small (by omega)]; simp
  | k + 1, u, h => by
    by_cases hu : 127 < u
    · rw [encU_great hu, List.length_cons]
      have h2 : u / 128 < 128 ^ (k + 1) := by
        rw [Nat.div_lt_iff_lt_mul (by decide), ← Nat.pow_succ]
        exact h
      have := encU_len k (u / 128) h2
      omega
    · rw [encU_small (by omega)]
      simp
theorem encN_len {n : Int} (h : I64 n) : (encN n).length ≤ 10 := encU_len 9 _ (by have := zig_top h; omega)
theorem encB_len (b : Bool) : (encB b).length ≤ 10 := encN_len (by cases b <;> exact ⟨by decide, by decide⟩)
theorem maxLen_i64 {n : Nat} (h : n ≤ maxLen) : I64 (n : Int) := by unfold maxLen at h; exact ⟨by omega, by omega⟩
theorem encT_len {s : ByteArray} (h : s.size ≤ maxLen) : (encT s).length ≤ 10 + s.size := by
  rw [encT_length]
  have := encN_len (maxLen_i64 h)
  omega
theorem wf_i64 {n : Int} (h : (Lit.int .i64 n).wf = true) : I64 n := by
  simp only [Lit.wf, Bool.and_eq_true, decide_eq_true_eq] at h
  exact h
theorem bulk_flat {H X : Type} {enc : X → List Int} : ∀ (l : List X) (ds : List (DataW H)), l.length = ds.length → (∀ (i : Nat) a d, l[i]? = some a → ds[i]? = some d → (enc a).length ≤ 10 * Rows.uptoBulk d) → (l.flatMap enc).length ≤ 10 * Rows.uptoBulkAll ds
  | [], _, _, _ => by simp
  | a :: l, d :: ds, hl, h => by
    have h1 := h 0 a d rfl rfl
    have h2 := bulk_flat l ds (by simpa using hl) (fun i a' d' ha hd => h (i + 1) a' d' ha hd)
    simp only [List.flatMap_cons, List.length_append, Rows.uptoBulkAll]
    omega
  | _ :: _, [], hl, _ => by simp at hl
theorem bulk_list {H X : Type} {enc : X → List Int} {l : List X} {D : Nat → DataW H} {b : Nat} (hb : Rows.uptoBulkAll ((List.range l.length).map D) + 1 ≤ b) (hn : I64 (l.length : Int)) (h : ∀ (i : Nat) a, l[i]? = some a → (enc a).length ≤ 10 * Rows.uptoBulk (D i)) : (encL enc l).length ≤ 10 * b := by
  have h1 := bulk_flat l ((List.range l.length).map D) (by simp) (fun i a d ha hd => by
    have hi := (List.getElem?_eq_some_iff.1 ha).1
    simp [hi] at hd
    subst hd
    exact h i a ha)
  have h2 := encN_len hn
  unfold encL
  rw [List.length_append]
  omega

section
variable {H : Type} {enc : TypeId × Value → H} {w : World} {sp : Nat → Bool} {held : Bool}

/-- A datum's rows are not too long. -/
def Light (t : TypeId) (d : DataW H) : Prop := ∀ n ∈ d.weights Tryz.prog t, n ≤ 140737488355328
theorem weightsAll_mem {e : TypeId} : ∀ {l : List (DataW H)} {d : DataW H}, d ∈ l → ∀ n ∈ d.weights Tryz.prog e, n ∈ DataW.weightsAll Tryz.prog e l
  | x :: r, d, h, n, hn => by
    rw [DataW.weightsAll, List.mem_append]
    rcases List.mem_cons.1 h with rfl | h
    · exact Or.inl hn
    · exact Or.inr (weightsAll_mem h n hn)
theorem int_top {n : Int} (h : (IntKind.i64.min ≤ n ∧ n ≤ IntKind.i64.max)) : n ≤ 9223372036854775807 := h.2
theorem cell_spot {w : World} {a : Addr} {v : Value} (h : w.cell? a = some v) : a.spot = none := by
  unfold World.cell? at h
  split at h
  · split at h
    · cases h
    · rename_i hh
      simpa using hh
  · cases h
theorem sl_open {t e : TypeId} {k by_ : Nat} (ht : Tryz.prog.underlying t = some (.slice e)) (hc : Tryz.prog.cellsOf e = k) (hk : 0 < k) (hby : Tryz.prog.bytesOf e = by_) {fuel : Nat} {v : Value} {x : DataW H × List MemPlace}
    (h : DataW.trod enc Tryz.prog w 0 sp held fuel t [v] = some x) (hl : Light t x.1) :
    ∃ (n : Nat) (R : Nat → Nat → Value) (D : Nat → DataW H), SlAt w v n k by_ R ∧ (∀ i, i < n → (∃ m y, DataW.trod enc Tryz.prog w 0 sp held m e ((List.range k).map (R i)) = some (D i, y)) ∧ Light e (D i)) ∧ Rows.uptoBulkAll ((List.range n).map D) + 1 ≤ Rows.uptoBulk x.1 := by
  rcases open_slice ht h with ⟨h0, rfl⟩ | ⟨a, len, cap, m, n, D, Pl, hcs, hb, hle, hcap, hm, rfl, hx⟩
  · cases h0
    exact ⟨0, fun _ _ => undef, fun _ => .nil, ⟨none, 0, rfl, by omega, fun i hi => absurd hi (Nat.not_lt_zero i)⟩, (fun i hi => absurd hi (Nat.not_lt_zero i)), by simp [Rows.uptoBulkAll, Rows.uptoBulk]⟩
  · cases hcs
    have hlm : len ≤ m := by rw [hm]; split <;> omega
    rw [hc] at hx
    unfold Light at hl
    simp only [DataW.weights, ht, hby, List.length_map, List.length_range] at hl
    have h1 := hl _ (List.mem_cons_self ..)
    have cell : ∀ i, i < len → ∀ j, j < k → ∃ u, w.cell? (a.add (i * k + j)) = some u := fun i hi j hj => by
      obtain ⟨cs', q1, _⟩ := hx i (by omega)
      obtain ⟨_, q2, q3⟩ := World.cells?_some q1
      have := q3 j hj
      rw [add_add, List.getElem?_eq_getElem (by omega)] at this
      exact ⟨_, this⟩
    have spot : 0 < len → a = ⟨a.block, a.off, none⟩ := fun hp => by
      obtain ⟨u, hu⟩ := cell 0 hp 0 hk
      have := cell_spot hu
      rw [show 0 * k + 0 = 0 by omega, show a.add 0 = a from rfl] at this
      cases a
      simp_all
    refine ⟨len, fun i j => (w.cell? (a.add (i * k + j))).getD undef, D, ⟨some a, cap, rfl, ?_, fun i hi => ⟨a.block, a.off, by rw [← spot (by omega)], fun j hj => ?_⟩⟩, fun i hi => ⟨?_, ?_⟩, by simp only [Rows.uptoBulk]; omega⟩
    · exact Nat.le_trans (Nat.mul_le_mul_right _ (by omega)) h1
    · obtain ⟨u, hu⟩ := cell i hi j hj
      have e : (⟨a.block, a.off + i * k + j, none⟩ : Addr) = a.add (i * k + j) := by
        have hs := congrArg Addr.spot (spot (by omega))
        unfold Addr.add
        split
        · rename_i q
          cases a
          simp_all
        · simp
      show _ = some ((w.cell? (a.add (i * k + j))).getD undef)
      rw [e, hu]
      rfl
    · obtain ⟨cs', q1, q2⟩ := hx i (by omega)
      obtain ⟨_, q3, q4⟩ := World.cells?_some q1
      refine ⟨n, Pl i, ?_⟩
      have e : (List.range k).map (fun j => (w.cell? (a.add (i * k + j))).getD undef) = cs' := ?_
      · rw [e]
        exact q2
      apply List.ext_getElem?
      intro j
      by_cases hj : j < k
      · rw [List.getElem?_map, List.getElem?_range hj, ← q4 j hj, add_add]
        obtain ⟨u, hu⟩ := cell i hi j hj
        simp [hu]
      · rw [List.getElem?_eq_none (by simp; omega), List.getElem?_eq_none (by omega)]
    · intro n' hn'
      refine hl n' (List.mem_cons_of_mem _ (List.mem_append_left _ (weightsAll_mem (List.mem_map.2 ⟨i, List.mem_range.2 hi, rfl⟩) n' hn')))
theorem cells_int : Tryz.prog.cellsOf 3 = 1 := by kernel_rfl
theorem cells_string : Tryz.prog.cellsOf 9 = 1 := by kernel_rfl
theorem cells_bool : Tryz.prog.cellsOf 4 = 1 := by kernel_rfl
def okC0 (c : PC) : Prop := I64 c.n
theorem instr_row {fuel : Nat} {R : Nat → Value} {y : DataW H × List MemPlace} (h : DataW.trod enc Tryz.prog w 0 sp held fuel 71 ((List.range 3).map R) = some y) : ∃ x : PI, (R 0 = .int .i64 x.op ∧ R 1 = .int .i64 x.a ∧ R 2 = .int .i64 x.b) ∧ okI x ∧ (encI x).length ≤ 10 * Rows.uptoBulk y.1 := by
  rw [show (List.range 3).map R = [R 0, R 1, R 2] from rfl] at h
  obtain ⟨ys, n, _, hy, _, hyl, hf⟩ := DataW.trod_struct Tryz.underlying71 h
  match ys, hyl with
  | [y0, y1, y2], _ =>
    have f0 : DataW.trod enc Tryz.prog w 0 sp held n 3 (([R 0, R 1, R 2].drop 0).take (Tryz.prog.cellsOf 3)) = some y0 := hf 0 _ rfl
    rw [cells_int] at f0
    obtain ⟨n0, e0, b0, w0⟩ := DataW.trod_int Tryz.underlying3 f0
    have e0 : R 0 = .int .i64 n0 := List.head_eq_of_cons_eq e0
    have w0 := wf_i64 w0
    have l0 := encN_len w0
    have k0 : Rows.uptoBulk y0.1 = 1 := by rw [b0]; rfl
    have f1 : DataW.trod enc Tryz.prog w 0 sp held n 3 (([R 0, R 1, R 2].drop 1).take (Tryz.prog.cellsOf 3)) = some y1 := hf 1 _ rfl
    rw [cells_int] at f1
    obtain ⟨n1, e1, b1, w1⟩ := DataW.trod_int Tryz.underlying3 f1
    have e1 : R 1 = .int .i64 n1 := List.head_eq_of_cons_eq e1
    have w1 := wf_i64 w1
    have l1 := encN_len w1
    have k1 : Rows.uptoBulk y1.1 = 1 := by rw [b1]; rfl
    have f2 : DataW.trod enc Tryz.prog w 0 sp held n 3 (([R 0, R 1, R 2].drop 2).take (Tryz.prog.cellsOf 3)) = some y2 := hf 2 _ rfl
    rw [cells_int] at f2
    obtain ⟨n2, e2, b2, w2⟩ := DataW.trod_int Tryz.underlying3 f2
    have e2 : R 2 = .int .i64 n2 := List.head_eq_of_cons_eq e2
    have w2 := wf_i64 w2
    have l2 := encN_len w2
    have k2 : Rows.uptoBulk y2.1 = 1 := by rw [b2]; rfl
    have hbk : Rows.uptoBulk y.1 = Rows.uptoBulk y0.1 + (Rows.uptoBulk y1.1 + (Rows.uptoBulk y2.1 + 0)) + 1 := by rw [hy]; rfl
    exact ⟨⟨n0, n1, n2⟩, ⟨e0, e1, e2⟩, ⟨w0, w1, w2⟩, by simp only [encI, List.length_append]; omega⟩
theorem cells_instr : Tryz.prog.cellsOf 71 = 3 := by kernel_rfl
theorem bytes_instr : Tryz.prog.bytesOf 71 = 24 := by kernel_rfl
theorem instrs_open {fuel : Nat} {v : Value} {x : DataW H × List MemPlace} (h : DataW.trod enc Tryz.prog w 0 sp held fuel 50 [v] = some x) (hl : Light 50 x.1) : ∃ l : List PI, InstrsAt w v l ∧ (∀ x ∈ l, okI x) ∧ (encL encI l).length ≤ 10 * Rows.uptoBulk x.1 := by
  obtain ⟨n, R, D, h1, h2, h3⟩ := sl_open Tryz.underlying50 cells_instr (by decide) bytes_instr h hl
  obtain ⟨l, rfl, h4⟩ := list_of (p := fun i (x : PI) => (R i 0 = .int .i64 x.op ∧ R i 1 = .int .i64 x.a ∧ R i 2 = .int .i64 x.b) ∧ okI x ∧ (encI x).length ≤ 10 * Rows.uptoBulk (D i)) n (fun i hi => (h2 i hi).1.elim fun m q => q.elim fun y q => instr_row q)
  have hi64 : I64 (l.length : Int) := by
    obtain ⟨_, _, _, hb, _⟩ := h1
    exact ⟨by omega, by omega⟩
  refine ⟨l, h1.turn fun i hi j hj => ?_, fun x hx => ?_, bulk_list h3 hi64 fun i a ha => (h4 i a ha).2.2⟩
  · have q := (h4 i _ (List.getElem?_eq_getElem hi)).1
    rw [instrRow, List.getElem?_eq_getElem hi]
    match j, hj with
    | 0, _ => exact q.1
    | 1, _ => exact q.2.1
    | 2, _ => exact q.2.2
  · obtain ⟨i, hi⟩ := List.getElem?_of_mem hx
    exact (h4 i x hi).2.1
theorem hand_row {fuel : Nat} {R : Nat → Value} {y : DataW H × List MemPlace} (h : DataW.trod enc Tryz.prog w 0 sp held fuel 74 ((List.range 3).map R) = some y) : ∃ x : PH, (R 0 = .int .i64 x.fr ∧ R 1 = .int .i64 x.to ∧ R 2 = .int .i64 x.tg) ∧ okH x ∧ (encH x).length ≤ 10 * Rows.uptoBulk y.1 := by
  rw [show (List.range 3).map R = [R 0, R 1, R 2] from rfl] at h
  obtain ⟨ys, n, _, hy, _, hyl, hf⟩ := DataW.trod_struct Tryz.underlying74 h
  match ys, hyl with
  | [y0, y1, y2], _ =>
    have f0 : DataW.trod enc Tryz.prog w 0 sp held n 3 (([R 0, R 1, R 2].drop 0).take (Tryz.prog.cellsOf 3)) = some y0 := hf 0 _ rfl
    rw [cells_int] at f0
    obtain ⟨n0, e0, b0, w0⟩ := DataW.trod_int Tryz.underlying3 f0
    have e0 : R 0 = .int .i64 n0 := List.head_eq_of_cons_eq e0
    have w0 := wf_i64 w0
    have l0 := encN_len w0
    have k0 : Rows.uptoBulk y0.1 = 1 := by rw [b0]; rfl
    have f1 : DataW.trod enc Tryz.prog w 0 sp held n 3 (([R 0, R 1, R 2].drop 1).take (Tryz.prog.cellsOf 3)) = some y1 := hf 1 _ rfl
    rw [cells_int] at f1
    obtain ⟨n1, e1, b1, w1⟩ := DataW.trod_int Tryz.underlying3 f1
    have e1 : R 1 = .int .i64 n1 := List.head_eq_of_cons_eq e1
    have w1 := wf_i64 w1
    have l1 := encN_len w1
    have k1 : Rows.uptoBulk y1.1 = 1 := by rw [b1]; rfl
    have f2 : DataW.trod enc Tryz.prog w 0 sp held n 3 (([R 0, R 1, R 2].drop 2).take (Tryz.prog.cellsOf 3)) = some y2 := hf 2 _ rfl
    rw [cells_int] at f2
    obtain ⟨n2, e2, b2, w2⟩ := DataW.trod_int Tryz.underlying3 f2
    have e2 : R 2 = .int .i64 n2 := List.head_eq_of_cons_eq e2
    have w2 := wf_i64 w2
    have l2 := encN_len w2
    have k2 : Rows.uptoBulk y2.1 = 1 := by rw [b2]; rfl
    have hbk : Rows.uptoBulk y.1 = Rows.uptoBulk y0.1 + (Rows.uptoBulk y1.1 + (Rows.uptoBulk y2.1 + 0)) + 1 := by rw [hy]; rfl
    exact ⟨⟨n0, n1, n2⟩, ⟨e0, e1, e2⟩, ⟨w0, w1, w2⟩, by simp only [encH, List.length_append]; omega⟩
theorem cells_hand : Tryz.prog.cellsOf 74 = 3 := by kernel_rfl
theorem bytes_hand : Tryz.prog.bytesOf 74 = 24 := by kernel_rfl
theorem hands_open {fuel : Nat} {v : Value} {x : DataW H × List MemPlace} (h : DataW.trod enc Tryz.prog w 0 sp held fuel 51 [v] = some x) (hl : Light 51 x.1) : ∃ l : List PH, HandsAt w v l ∧ (∀ x ∈ l, okH x) ∧ (encL encH l).length ≤ 10 * Rows.uptoBulk x.1 := by
  obtain ⟨n, R, D, h1, h2, h3⟩ := sl_open Tryz.underlying51 cells_hand (by decide) bytes_hand h hl
  obtain ⟨l, rfl, h4⟩ := list_of (p := fun i (x : PH) => (R i 0 = .int .i64 x.fr ∧ R i 1 = .int .i64 x.to ∧ R i 2 = .int .i64 x.tg) ∧ okH x ∧ (encH x).length ≤ 10 * Rows.uptoBulk (D i)) n (fun i hi => (h2 i hi).1.elim fun m q => q.elim fun y q => hand_row q)
  have hi64 : I64 (l.length : Int) := by
    obtain ⟨_, _, _, hb, _⟩ := h1
    exact ⟨by omega, by omega⟩
  refine ⟨l, h1.turn fun i hi j hj => ?_, fun x hx => ?_, bulk_list h3 hi64 fun i a ha => (h4 i a ha).2.2⟩
  · have q := (h4 i _ (List.getElem?_eq_getElem hi)).1
    rw [handRow, List.getElem?_eq_getElem hi]
    match j, hj with
    | 0, _ => exact q.1
    | 1, _ => exact q.2.1
    | 2, _ => exact q.2.2
  · obtain ⟨i, hi⟩ := List.getElem?_of_mem hx
    exact (h4 i x hi).2.1
theorem var_row {fuel : Nat} {R : Nat → Value} {y : DataW H × List MemPlace} (h : DataW.trod enc Tryz.prog w 0 sp held fuel 77 ((List.range 5).map R) = some y) : ∃ x : PV, (R 0 = .string x.name ∧ R 1 = .int .i64 x.slot ∧ R 2 = .int .i64 x.fr ∧ R 3 = .int .i64 x.to ∧ R 4 = .bool x.boxed) ∧ okV x ∧ (encV x).length ≤ 10 * Rows.uptoBulk y.1 := by
  rw [show (List.range 5).map R = [R 0, R 1, R 2, R 3, R 4] from rfl] at h
  obtain ⟨ys, n, _, hy, _, hyl, hf⟩ := DataW.trod_struct Tryz.underlying77 h
  match ys, hyl with
  | [y0, y1, y2, y3, y4], _ =>
    have f0 : DataW.trod enc Tryz.prog w 0 sp held n 9 (([R 0, R 1, R 2, R 3, R 4].drop 0).take (Tryz.prog.cellsOf 9)) = some y0 := hf 0 _ rfl
    rw [cells_string] at f0
    obtain ⟨n0, e0, b0, w0⟩ := DataW.trod_string Tryz.underlying9 f0
    have e0 : R 0 = .string n0 := List.head_eq_of_cons_eq e0
    have l0 := encT_len w0
    have k0 : Rows.uptoBulk y0.1 = n0.size + 1 := by rw [b0]; show n0.data.toList.length + 1 = _; simp
    have f1 : DataW.trod enc Tryz.prog w 0 sp held n 3 (([R 0, R 1, R 2, R 3, R 4].drop 1).take (Tryz.prog.cellsOf 3)) = some y1 := hf 1 _ rfl
    rw [cells_int] at f1
    obtain ⟨n1, e1, b1, w1⟩ := DataW.trod_int Tryz.underlying3 f1
    have e1 : R 1 = .int .i64 n1 := List.head_eq_of_cons_eq e1
    have w1 := wf_i64 w1
    have l1 := encN_len w1
    have k1 : Rows.uptoBulk y1.1 = 1 := by rw [b1]; rfl
    have f2 : DataW.trod enc Tryz.prog w 0 sp held n 3 (([R 0, R 1, R 2, R 3, R 4].drop 2).take (Tryz.prog.cellsOf 3)) = some y2 := hf 2 _ rfl
    rw [cells_int] at f2
    obtain ⟨n2, e2, b2, w2⟩ := DataW.trod_int Tryz.underlying3 f2
    have e2 : R 2 = .int .i64 n2 := List.head_eq_of_cons_eq e2
    have w2 := wf_i64 w2
    have l2 := encN_len w2
    have k2 : Rows.uptoBulk y2.1 = 1 := by rw [b2]; rfl
    have f3 : DataW.trod enc Tryz.prog w 0 sp held n 3 (([R 0, R 1, R 2, R 3, R 4].drop 3).take (Tryz.prog.cellsOf 3)) = some y3 := hf 3 _ rfl
    rw [cells_int] at f3
    obtain ⟨n3, e3, b3, w3⟩ := DataW.trod_int Tryz.underlying3 f3
    have e3 : R 3 = .int .i64 n3 := List.head_eq_of_cons_eq e3
    have w3 := wf_i64 w3
    have l3 := encN_len w3
    have k3 : Rows.uptoBulk y3.1 = 1 := by rw [b3]; rfl
    have f4 : DataW.trod enc Tryz.prog w 0 sp held n 4 (([R 0, R 1, R 2, R 3, R 4].drop 4).take (Tryz.prog.cellsOf 4)) = some y4 := hf 4 _ rfl
    rw [cells_bool] at f4
    obtain ⟨n4, e4, b4⟩ := DataW.trod_bool Tryz.underlying4 f4
    have e4 : R 4 = .bool n4 := List.head_eq_of_cons_eq e4
    have l4 := encB_len n4
    have k4 : Rows.uptoBulk y4.1 = 1 := by rw [b4]; rfl
    have hbk : Rows.uptoBulk y.1 = Rows.uptoBulk y0.1 + (Rows.uptoBulk y1.1 + (Rows.uptoBulk y2.1 + (Rows.uptoBulk y3.1 + (Rows.uptoBulk y4.1 + 0)))) + 1 := by rw [hy]; rfl
    exact ⟨⟨n0, n1, n2, n3, n4⟩, ⟨e0, e1, e2, e3, e4⟩, ⟨w1, w2, w3⟩, by simp only [encV, List.length_append]; omega⟩
theorem cells_var : Tryz.prog.cellsOf 77 = 5 := by kernel_rfl
theorem bytes_var : Tryz.prog.bytesOf 77 = 48 := by kernel_rfl
theorem vars_open {fuel : Nat} {v : Value} {x : DataW H × List MemPlace} (h : DataW.trod enc Tryz.prog w 0 sp held fuel 52 [v] = some x) (hl : Light 52 x.1) : ∃ l : List PV, VarsAt w v l ∧ (∀ x ∈ l, okV x) ∧ (encL encV l).length ≤ 10 * Rows.uptoBulk x.1 := by
  obtain ⟨n, R, D, h1, h2, h3⟩ := sl_open Tryz.underlying52 cells_var (by decide) bytes_var h hl
  obtain ⟨l, rfl, h4⟩ := list_of (p := fun i (x : PV) => (R i 0 = .string x.name ∧ R i 1 = .int .i64 x.slot ∧ R i 2 = .int .i64 x.fr ∧ R i 3 = .int .i64 x.to ∧ R i 4 = .bool x.boxed) ∧ okV x ∧ (encV x).length ≤ 10 * Rows.uptoBulk (D i)) n (fun i hi => (h2 i hi).1.elim fun m q => q.elim fun y q => var_row q)
  have hi64 : I64 (l.length : Int) := by
    obtain ⟨_, _, _, hb, _⟩ := h1
    exact ⟨by omega, by omega⟩
  refine ⟨l, h1.turn fun i hi j hj => ?_, fun x hx => ?_, bulk_list h3 hi64 fun i a ha => (h4 i a ha).2.2⟩
  · have q := (h4 i _ (List.getElem?_eq_getElem hi)).1
    rw [varRow, List.getElem?_eq_getElem hi]
    match j, hj with
    | 0, _ => exact q.1
    | 1, _ => exact q.2.1
    | 2, _ => exact q.2.2.1
    | 3, _ => exact q.2.2.2.1
    | 4, _ => exact q.2.2.2.2
  · obtain ⟨i, hi⟩ := List.getElem?_of_mem hx
    exact (h4 i x hi).2.1
theorem const_row {fuel : Nat} {R : Nat → Value} {y : DataW H × List MemPlace} (h : DataW.trod enc Tryz.prog w 0 sp held fuel 43 ((List.range 3).map R) = some y) : ∃ x : PC, (R 0 = .bool x.text ∧ R 1 = .string x.s ∧ R 2 = .int .i64 x.n) ∧ okC0 x ∧ (encC x).length ≤ 10 * Rows.uptoBulk y.1 := by
  rw [show (List.range 3).map R = [R 0, R 1, R 2] from rfl] at h
  obtain ⟨ys, n, _, hy, _, hyl, hf⟩ := DataW.trod_struct Tryz.underlying43 h
  match ys, hyl with
  | [y0, y1, y2], _ =>
    have f0 : DataW.trod enc Tryz.prog w 0 sp held n 4 (([R 0, R 1, R 2].drop 0).take (Tryz.prog.cellsOf 4)) = some y0 := hf 0 _ rfl
    rw [cells_bool] at f0
    obtain ⟨n0, e0, b0⟩ := DataW.trod_bool Tryz.underlying4 f0
    have e0 : R 0 = .bool n0 := List.head_eq_of_cons_eq e0
    have l0 := encB_len n0
    have k0 : Rows.uptoBulk y0.1 = 1 := by rw [b0]; rfl
    have f1 : DataW.trod enc Tryz.prog w 0 sp held n 9 (([R 0, R 1, R 2].drop 1).take (Tryz.prog.cellsOf 9)) = some y1 := hf 1 _ rfl
    rw [cells_string] at f1
    obtain ⟨n1, e1, b1, w1⟩ := DataW.trod_string Tryz.underlying9 f1
    have e1 : R 1 = .string n1 := List.head_eq_of_cons_eq e1
    have l1 := encT_len w1
    have k1 : Rows.uptoBulk y1.1 = n1.size + 1 := by rw [b1]; show n1.data.toList.length + 1 = _; simp
    have f2 : DataW.trod enc Tryz.prog w 0 sp held n 3 (([R 0, R 1, R 2].drop 2).take (Tryz.prog.cellsOf 3)) = some y2 := hf 2 _ rfl
    rw [cells_int] at f2
    obtain ⟨n2, e2, b2, w2⟩ := DataW.trod_int Tryz.underlying3 f2
    have e2 : R 2 = .int .i64 n2 := List.head_eq_of_cons_eq e2
    have w2 := wf_i64 w2
    have l2 := encN_len w2
    have k2 : Rows.uptoBulk y2.1 = 1 := by rw [b2]; rfl
    have hbk : Rows.uptoBulk y.1 = Rows.uptoBulk y0.1 + (Rows.uptoBulk y1.1 + (Rows.uptoBulk y2.1 + 0)) + 1 := by rw [hy]; rfl
    exact ⟨⟨n0, n1, n2⟩, ⟨e0, e1, e2⟩, w2, by
      have l3 := encN_len (show I64 1 from ⟨by decide, by decide⟩)
      have l4 := encN_len (show I64 0 from ⟨by decide, by decide⟩)
      unfold encC
      split <;> (simp only [List.length_append]; omega)⟩
theorem cells_const : Tryz.prog.cellsOf 43 = 3 := by kernel_rfl
theorem bytes_const : Tryz.prog.bytesOf 43 = 32 := by kernel_rfl
theorem consts_open {fuel : Nat} {v : Value} {x : DataW H × List MemPlace} (h : DataW.trod enc Tryz.prog w 0 sp held fuel 23 [v] = some x) (hl : Light 23 x.1) : ∃ l : List PC, ConstsAt w v l ∧ (∀ x ∈ l, okC0 x) ∧ (encL encC l).length ≤ 10 * Rows.uptoBulk x.1 := by
  obtain ⟨n, R, D, h1, h2, h3⟩ := sl_open Tryz.underlying23 cells_const (by decide) bytes_const h hl
  obtain ⟨l, rfl, h4⟩ := list_of (p := fun i (x : PC) => (R i 0 = .bool x.text ∧ R i 1 = .string x.s ∧ R i 2 = .int .i64 x.n) ∧ okC0 x ∧ (encC x).length ≤ 10 * Rows.uptoBulk (D i)) n (fun i hi => (h2 i hi).1.elim fun m q => q.elim fun y q => const_row q)
  have hi64 : I64 (l.length : Int) := by
    obtain ⟨_, _, _, hb, _⟩ := h1
    exact ⟨by omega, by omega⟩
  refine ⟨l, h1.turn fun i hi j hj => ?_, fun x hx => ?_, bulk_list h3 hi64 fun i a ha => (h4 i a ha).2.2⟩
  · have q := (h4 i _ (List.getElem?_eq_getElem hi)).1
    rw [constRow, List.getElem?_eq_getElem hi]
    match j, hj with
    | 0, _ => exact q.1
    | 1, _ => exact q.2.1
    | 2, _ => exact q.2.2
  · obtain ⟨i, hi⟩ := List.getElem?_of_mem hx
    exact (h4 i x hi).2.1
theorem bytes_string : Tryz.prog.bytesOf 9 = 16 := by kernel_rfl
theorem strs_open {fuel : Nat} {v : Value} {x : DataW H × List MemPlace} (h : DataW.trod enc Tryz.prog w 0 sp held fuel 35 [v] = some x) (hl : Light 35 x.1) : ∃ l : List ByteArray, StrsAt w v l ∧ (∀ x ∈ l, True) ∧ (encL encT l).length ≤ 10 * Rows.uptoBulk x.1 := by
  obtain ⟨n, R, D, h1, h2, h3⟩ := sl_open Tryz.underlying35 cells_string (by decide) bytes_string h hl
  obtain ⟨l, rfl, h4⟩ := list_of (p := fun i (x : ByteArray) => R i 0 = .string x ∧ True ∧ (encT x).length ≤ 10 * Rows.uptoBulk (D i)) n (fun i hi => by
    obtain ⟨⟨m, y, q⟩, _⟩ := h2 i hi
    rw [show (List.range 1).map (R i) = [R i 0] from rfl] at q
    obtain ⟨n, e, b, wl⟩ := DataW.trod_string Tryz.underlying9 q
    refine ⟨n, List.head_eq_of_cons_eq e, trivial, ?_⟩
    have hd : D i = .lit (.string n.data.toList) := congrArg Prod.fst b
    have := encT_len wl
    rw [hd]
    show _ ≤ 10 * (n.data.toList.length + 1)
    have e2 : n.data.toList.length = n.size := by simp
    omega)
  have hi64 : I64 (l.length : Int) := by
    obtain ⟨_, _, _, hb, _⟩ := h1
    exact ⟨by omega, by omega⟩
  refine ⟨l, h1.turn fun i hi j hj => ?_, fun x hx => ?_, bulk_list h3 hi64 fun i a ha => (h4 i a ha).2.2⟩
  · have q := (h4 i _ (List.getElem?_eq_getElem hi)).1
    rw [strRow, List.getElem?_eq_getElem hi]
    match j, hj with
    | 0, _ => exact q
  · obtain ⟨i, hi⟩ := List.getElem?_of_mem hx
    exact (h4 i x hi).2.1
theorem bytes_int : Tryz.prog.bytesOf 3 = 8 := by kernel_rfl
theorem ints_open {fuel : Nat} {v : Value} {x : DataW H × List MemPlace} (h : DataW.trod enc Tryz.prog w 0 sp held fuel 36 [v] = some x) (hl : Light 36 x.1) : ∃ l : List Int, IntsAt w v l ∧ (∀ x ∈ l, I64 x) ∧ (encL encN l).length ≤ 10 * Rows.uptoBulk x.1 := by
  obtain ⟨n, R, D, h1, h2, h3⟩ := sl_open Tryz.underlying36 cells_int (by decide) bytes_int h hl
  obtain ⟨l, rfl, h4⟩ := list_of (p := fun i (x : Int) => R i 0 = .int .i64 x ∧ I64 x ∧ (encN x).length ≤ 10 * Rows.uptoBulk (D i)) n (fun i hi => by
    obtain ⟨⟨m, y, q⟩, _⟩ := h2 i hi
    rw [show (List.range 1).map (R i) = [R i 0] from rfl] at q
    obtain ⟨n, e, b, wl⟩ := DataW.trod_int Tryz.underlying3 q
    refine ⟨n, List.head_eq_of_cons_eq e, wf_i64 wl, ?_⟩
    have hd : D i = .lit (.int .i64 n) := congrArg Prod.fst b
    have := encN_len (wf_i64 wl)
    rw [hd]
    show _ ≤ 10 * 1
    omega)
  have hi64 : I64 (l.length : Int) := by
    obtain ⟨_, _, _, hb, _⟩ := h1
    exact ⟨by omega, by omega⟩
  refine ⟨l, h1.turn fun i hi j hj => ?_, fun x hx => ?_, bulk_list h3 hi64 fun i a ha => (h4 i a ha).2.2⟩
  · have q := (h4 i _ (List.getElem?_eq_getElem hi)).1
    rw [intRow, List.getElem?_eq_getElem hi]
    match j, hj with
    | 0, _ => exact q
  · obtain ⟨i, hi⟩ := List.getElem?_of_mem hx
    exact (h4 i x hi).2.1
theorem func_row {fuel : Nat} {R : Nat → Value} {y : DataW H × List MemPlace} (h : DataW.trod enc Tryz.prog w 0 sp held fuel 54 ((List.range 6).map R) = some y) (hl : Light 54 y.1) : ∃ x : PF, FnIs w R x ∧ okF x ∧ (encF x).length ≤ 10 * Rows.uptoBulk y.1 := by
  rw [show (List.range 6).map R = [R 0, R 1, R 2, R 3, R 4, R 5] from rfl] at h
  obtain ⟨ys, n, _, hy, _, hyl, hf⟩ := DataW.trod_struct Tryz.underlying54 h
  match ys, hyl with
  | [y0, y1, y2, y3, y4, y5], _ =>
    have f0 : DataW.trod enc Tryz.prog w 0 sp held n 9 (([R 0, R 1, R 2, R 3, R 4, R 5].drop 0).take (Tryz.prog.cellsOf 9)) = some y0 := hf 0 _ rfl
    rw [cells_string] at f0
    obtain ⟨n0, e0, b0, w0⟩ := DataW.trod_string Tryz.underlying9 f0
    have e0 : R 0 = .string n0 := List.head_eq_of_cons_eq e0
    have l0 := encT_len w0
    have k0 : Rows.uptoBulk y0.1 = n0.size + 1 := by rw [b0]; show n0.data.toList.length + 1 = _; simp
    have f1 : DataW.trod enc Tryz.prog w 0 sp held n 3 (([R 0, R 1, R 2, R 3, R 4, R 5].drop 1).take (Tryz.prog.cellsOf 3)) = some y1 := hf 1 _ rfl
    rw [cells_int] at f1
    obtain ⟨n1, e1, b1, w1⟩ := DataW.trod_int Tryz.underlying3 f1
    have e1 : R 1 = .int .i64 n1 := List.head_eq_of_cons_eq e1
    have w1 := wf_i64 w1
    have l1 := encN_len w1
    have k1 : Rows.uptoBulk y1.1 = 1 := by rw [b1]; rfl
    have f2 : DataW.trod enc Tryz.prog w 0 sp held n 3 (([R 0, R 1, R 2, R 3, R 4, R 5].drop 2).take (Tryz.prog.cellsOf 3)) = some y2 := hf 2 _ rfl
    rw [cells_int] at f2
    obtain ⟨n2, e2, b2, w2⟩ := DataW.trod_int Tryz.underlying3 f2
    have e2 : R 2 = .int .i64 n2 := List.head_eq_of_cons_eq e2
    have w2 := wf_i64 w2
    have l2 := encN_len w2
    have k2 : Rows.uptoBulk y2.1 = 1 := by rw [b2]; rfl
    have f3 : DataW.trod enc Tryz.prog w 0 sp held n 50 (([R 0, R 1, R 2, R 3, R 4, R 5].drop 3).take (Tryz.prog.cellsOf 50)) = some y3 := hf 3 _ rfl
    have f4 : DataW.trod enc Tryz.prog w 0 sp held n 51 (([R 0, R 1, R 2, R 3, R 4, R 5].drop 4).take (Tryz.prog.cellsOf 51)) = some y4 := hf 4 _ rfl
    have f5 : DataW.trod enc Tryz.prog w 0 sp held n 52 (([R 0, R 1, R 2, R 3, R 4, R 5].drop 5).take (Tryz.prog.cellsOf 52)) = some y5 := hf 5 _ rfl
    have hbk : Rows.uptoBulk y.1 = Rows.uptoBulk y0.1 + (Rows.uptoBulk y1.1 + (Rows.uptoBulk y2.1 + (Rows.uptoBulk y3.1 + (Rows.uptoBulk y4.1 + (Rows.uptoBulk y5.1 + 0))))) + 1 := by rw [hy]; rfl
    have L3 : Light 50 y3.1 := fun q hq => hl q (by
      rw [hy]
      simp only [DataW.weights, Tryz.underlying54]
      exact DataW.weights_mem_each (j := 3) rfl rfl q hq)
    rw [show Tryz.prog.cellsOf 50 = 1 by kernel_rfl] at f3
    rw [show (([R 0, R 1, R 2, R 3, R 4, R 5].drop 3).take 1) = [R 3] from rfl] at f3
    have L4 : Light 51 y4.1 := fun q hq => hl q (by
      rw [hy]
      simp only [DataW.weights, Tryz.underlying54]
      exact DataW.weights_mem_each (j := 4) rfl rfl q hq)
    rw [show Tryz.prog.cellsOf 51 = 1 by kernel_rfl] at f4
    rw [show (([R 0, R 1, R 2, R 3, R 4, R 5].drop 4).take 1) = [R 4] from rfl] at f4
    have L5 : Light 52 y5.1 := fun q hq => hl q (by
      rw [hy]
      simp only [DataW.weights, Tryz.underlying54]
      exact DataW.weights_mem_each (j := 5) rfl rfl q hq)
    rw [show Tryz.prog.cellsOf 52 = 1 by kernel_rfl] at f5
    rw [show (([R 0, R 1, R 2, R 3, R 4, R 5].drop 5).take 1) = [R 5] from rfl] at f5
    obtain ⟨l3', g3, o3, q3⟩ := instrs_open f3 L3
    obtain ⟨l4', g4, o4, q4⟩ := hands_open f4 L4
    obtain ⟨l5', g5, o5, q5⟩ := vars_open f5 L5
    exact ⟨⟨n0, n1, n2, l3', l4', l5'⟩, ⟨e0, e1, e2, g3, g4, g5⟩, ⟨w1, w2, o3, o4, o5⟩, by simp only [encF, List.length_append]; omega⟩
def okK0 (c : PK) : Prop := I64 c.above ∧ ∀ x ∈ c.meths, I64 x
theorem zip_len : ∀ (ns : List ByteArray) (ms : List Int), ((ns.zip ms).flatMap encP).length ≤ (ns.flatMap encT).length + (ms.flatMap encN).length
  | [], _ => by simp
  | _ :: _, [] => by simp
  | n :: ns, m :: ms => by
    have := zip_len ns ms
    simp only [List.zip_cons_cons, List.flatMap_cons, List.length_append, encP]
    omega
theorem kind_row {fuel : Nat} {R : Nat → Value} {y : DataW H × List MemPlace} (h : DataW.trod enc Tryz.prog w 0 sp held fuel 38 ((List.range 5).map R) = some y) (hl : Light 38 y.1) : ∃ x : PK, KdIs w R x ∧ okK0 x ∧ (encK x).length ≤ 10 * Rows.uptoBulk y.1 := by
  rw [show (List.range 5).map R = [R 0, R 1, R 2, R 3, R 4] from rfl] at h
  obtain ⟨ys, n, _, hy, _, hyl, hf⟩ := DataW.trod_struct Tryz.underlying38 h
  match ys, hyl with
  | [y0, y1, y2, y3, y4], _ =>
    have f0 : DataW.trod enc Tryz.prog w 0 sp held n 9 (([R 0, R 1, R 2, R 3, R 4].drop 0).take (Tryz.prog.cellsOf 9)) = some y0 := hf 0 _ rfl
    rw [cells_string] at f0
    obtain ⟨n0, e0, b0, w0⟩ := DataW.trod_string Tryz.underlying9 f0
    have e0 : R 0 = .string n0 := List.head_eq_of_cons_eq e0
    have l0 := encT_len w0
    have k0 : Rows.uptoBulk y0.1 = n0.size + 1 := by rw [b0]; show n0.data.toList.length + 1 = _; simp
    have f1 : DataW.trod enc Tryz.prog w 0 sp held n 3 (([R 0, R 1, R 2, R 3, R 4].drop 1).take (Tryz.prog.cellsOf 3)) = some y1 := hf 1 _ rfl
    rw [cells_int] at f1
    obtain ⟨n1, e1, b1, w1⟩ := DataW.trod_int Tryz.underlying3 f1
    have e1 : R 1 = .int .i64 n1 := List.head_eq_of_cons_eq e1
    have w1 := wf_i64 w1
    have l1 := encN_len w1
    have k1 : Rows.uptoBulk y1.1 = 1 := by rw [b1]; rfl
    have f2 : DataW.trod enc Tryz.prog w 0 sp held n 35 (([R 0, R 1, R 2, R 3, R 4].drop 2).take (Tryz.prog.cellsOf 35)) = some y2 := hf 2 _ rfl
    have f3 : DataW.trod enc Tryz.prog w 0 sp held n 35 (([R 0, R 1, R 2, R 3, R 4].drop 3).take (Tryz.prog.cellsOf 35)) = some y3 := hf 3 _ rfl
    have f4 : DataW.trod enc Tryz.prog w 0 sp held n 36 (([R 0, R 1, R 2, R 3, R 4].drop 4).take (Tryz.prog.cellsOf 36)) = some y4 := hf 4 _ rfl
    have hbk : Rows.uptoBulk y.1 = Rows.uptoBulk y0.1 + (Rows.uptoBulk y1.1 + (Rows.uptoBulk y2.1 + (Rows.uptoBulk y3.1 + (Rows.uptoBulk y4.1 + 0)))) + 1 := by rw [hy]; rfl
    have L2 : Light 35 y2.1 := fun q hq => hl q (by
      rw [hy]
      simp only [DataW.weights, Tryz.underlying38]
      exact DataW.weights_mem_each (j := 2) rfl rfl q hq)
    rw [show Tryz.prog.cellsOf 35 = 1 by kernel_rfl] at f2
    rw [show (([R 0, R 1, R 2, R 3, R 4].drop 2).take 1) = [R 2] from rfl] at f2
    have L3 : Light 35 y3.1 := fun q hq => hl q (by
      rw [hy]
      simp only [DataW.weights, Tryz.underlying38]
      exact DataW.weights_mem_each (j := 3) rfl rfl q hq)
    rw [show Tryz.prog.cellsOf 35 = 1 by kernel_rfl] at f3
    rw [show (([R 0, R 1, R 2, R 3, R 4].drop 3).take 1) = [R 3] from rfl] at f3
    have L4 : Light 36 y4.1 := fun q hq => hl q (by
      rw [hy]
      simp only [DataW.weights, Tryz.underlying38]
      exact DataW.weights_mem_each (j := 4) rfl rfl q hq)
    rw [show Tryz.prog.cellsOf 36 = 1 by kernel_rfl] at f4
    rw [show (([R 0, R 1, R 2, R 3, R 4].drop 4).take 1) = [R 4] from rfl] at f4
    obtain ⟨l2', g2, _, q2⟩ := strs_open f2 L2
    obtain ⟨l3', g3, _, q3⟩ := strs_open f3 L3
    obtain ⟨l4', g4, o4, q4⟩ := ints_open f4 L4
    have hz := zip_len l3' l4'
    exact ⟨⟨n0, n1, l2', l3', l4'⟩, ⟨e0, e1, g2, g3, g4⟩, ⟨w1, o4⟩, by simp only [encK, encL, List.length_append] at q2 q3 q4 ⊢; omega⟩
theorem cells_func : Tryz.prog.cellsOf 54 = 6 := by kernel_rfl
theorem bytes_func : Tryz.prog.bytesOf 54 = 104 := by kernel_rfl
theorem funcs_open {fuel : Nat} {v : Value} {x : DataW H × List MemPlace} (h : DataW.trod enc Tryz.prog w 0 sp held fuel 22 [v] = some x) (hl : Light 22 x.1) : ∃ l : List PF, FuncsAt w v l ∧ (∀ x ∈ l, okF x) ∧ (encL encF l).length ≤ 10 * Rows.uptoBulk x.1 := by
  obtain ⟨n, R, D, h1, h2, h3⟩ := sl_open Tryz.underlying22 cells_func (by decide) bytes_func h hl
  obtain ⟨l, rfl, h4⟩ := list_of (p := fun i (x : PF) => FnIs w (R i) x ∧ okF x ∧ (encF x).length ≤ 10 * Rows.uptoBulk (D i)) n (fun i hi => (h2 i hi).1.elim fun m q => q.elim fun y q => func_row q (h2 i hi).2)
  have hi64 : I64 (l.length : Int) := by
    obtain ⟨_, _, _, hb, _⟩ := h1
    exact ⟨by omega, by omega⟩
  refine ⟨l, ⟨R, h1, fun i f hf => (h4 i f hf).1⟩, fun x hx => ?_, bulk_list h3 hi64 fun i a ha => (h4 i a ha).2.2⟩
  obtain ⟨i, hi⟩ := List.getElem?_of_mem hx
  exact (h4 i x hi).2.1
theorem cells_kind : Tryz.prog.cellsOf 38 = 5 := by kernel_rfl
theorem bytes_kind : Tryz.prog.bytesOf 38 = 96 := by kernel_rfl
theorem kinds_open {fuel : Nat} {v : Value} {x : DataW H × List MemPlace} (h : DataW.trod enc Tryz.prog w 0 sp held fuel 24 [v] = some x) (hl : Light 24 x.1) : ∃ l : List PK, KindsAt w v l ∧ (∀ x ∈ l, okK0 x) ∧ (encL encK l).length ≤ 10 * Rows.uptoBulk x.1 := by
  obtain ⟨n, R, D, h1, h2, h3⟩ := sl_open Tryz.underlying24 cells_kind (by decide) bytes_kind h hl
  obtain ⟨l, rfl, h4⟩ := list_of (p := fun i (x : PK) => KdIs w (R i) x ∧ okK0 x ∧ (encK x).length ≤ 10 * Rows.uptoBulk (D i)) n (fun i hi => (h2 i hi).1.elim fun m q => q.elim fun y q => kind_row q (h2 i hi).2)
  have hi64 : I64 (l.length : Int) := by
    obtain ⟨_, _, _, hb, _⟩ := h1
    exact ⟨by omega, by omega⟩
  refine ⟨l, ⟨R, h1, fun i f hf => (h4 i f hf).1⟩, fun x hx => ?_, bulk_list h3 hi64 fun i a ha => (h4 i a ha).2.2⟩
  obtain ⟨i, hi⟩ := List.getElem?_of_mem hx
  exact (h4 i x hi).2.1
theorem image_rowB {fuel : Nat} {R : Nat → Value} {y : DataW H × List MemPlace} (h : DataW.trod enc Tryz.prog w 0 sp held fuel 26 ((List.range 3).map R) = some y) (hl : Light 26 y.1) : ∃ m : PM, ImgIs w (R 0) (R 1) (R 2) m ∧ ((∀ c ∈ m.consts, I64 c.n) ∧ (∀ c ∈ m.classes, I64 c.above ∧ ∀ x ∈ c.meths, I64 x) ∧ ∀ f ∈ m.funcs, okF f) ∧ (encImg m).length ≤ 10 * Rows.uptoBulk y.1 + 14 := by
  rw [show (List.range 3).map R = [R 0, R 1, R 2] from rfl] at h
  obtain ⟨ys, n, _, hy, _, hyl, hf⟩ := DataW.trod_struct Tryz.underlying26 h
  match ys, hyl with
  | [y0, y1, y2], _ =>
    have f0 : DataW.trod enc Tryz.prog w 0 sp held n 22 (([R 0, R 1, R 2].drop 0).take (Tryz.prog.cellsOf 22)) = some y0 := hf 0 _ rfl
    have f1 : DataW.trod enc Tryz.prog w 0 sp held n 23 (([R 0, R 1, R 2].drop 1).take (Tryz.prog.cellsOf 23)) = some y1 := hf 1 _ rfl
    have f2 : DataW.trod enc Tryz.prog w 0 sp held n 24 (([R 0, R 1, R 2].drop 2).take (Tryz.prog.cellsOf 24)) = some y2 := hf 2 _ rfl
    have hbk : Rows.uptoBulk y.1 = Rows.uptoBulk y0.1 + (Rows.uptoBulk y1.1 + (Rows.uptoBulk y2.1 + 0)) + 1 := by rw [hy]; rfl
    have L0 : Light 22 y0.1 := fun q hq => hl q (by
      rw [hy]
      simp only [DataW.weights, Tryz.underlying26]
      exact DataW.weights_mem_each (j := 0) rfl rfl q hq)
    rw [show Tryz.prog.cellsOf 22 = 1 by kernel_rfl] at f0
    rw [show (([R 0, R 1, R 2].drop 0).take 1) = [R 0] from rfl] at f0
    have L1 : Light 23 y1.1 := fun q hq => hl q (by
      rw [hy]
      simp only [DataW.weights, Tryz.underlying26]
      exact DataW.weights_mem_each (j := 1) rfl rfl q hq)
    rw [show Tryz.prog.cellsOf 23 = 1 by kernel_rfl] at f1
    rw [show (([R 0, R 1, R 2].drop 1).take 1) = [R 1] from rfl] at f1
    have L2 : Light 24 y2.1 := fun q hq => hl q (by
      rw [hy]
      simp only [DataW.weights, Tryz.underlying26]
      exact DataW.weights_mem_each (j := 2) rfl rfl q hq)
    rw [show Tryz.prog.cellsOf 24 = 1 by kernel_rfl] at f2
    rw [show (([R 0, R 1, R 2].drop 2).take 1) = [R 2] from rfl] at f2
    obtain ⟨l0, g0, o0, q0⟩ := funcs_open f0 L0
    obtain ⟨l1, g1, o1, q1⟩ := consts_open f1 L1
    obtain ⟨l2, g2, o2, q2⟩ := kinds_open f2 L2
    have hs := sumL_bound (encM ⟨l0, l1, l2⟩)
    have hn := encN_len (show I64 (sumL (encM ⟨l0, l1, l2⟩)) from ⟨by omega, by omega⟩)
    refine ⟨⟨l0, l1, l2⟩, ⟨g0, g1, g2⟩, ⟨o1, o2, o0⟩, ?_⟩
    simp only [encImg, List.length_append]
    have : (encM ⟨l0, l1, l2⟩).length = 4 + ((encL encC l1).length + ((encL encK l2).length + (encL encF l0).length)) := by simp only [encM, List.length_append]; rfl
    omega
end
end Go.Proofs.YtkafldkhmkdafaaGreatDoor
