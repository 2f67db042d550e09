/-
  slices.Clone, of rows: the same cells, in memory of its own.
  Rows in a block of their own, some of whose cells are turned.
-/
import Derived.Test.YtcbgcjkcfolcoaaDoorM08
import Derived.Lib.SliceRun
import Derived.Lib.Walk
namespace Go.Proofs.YtcbgcjkcfolcoaaDoor
open Go.RowKit

/-- The cells of rows, one behind the other. -/
def flat (n k : Nat) (R : Nat → Nat → Value) : List Value := (List.range (n * k)).map fun x => R (x / k) (x % k)
theorem flat_len (n k : Nat) (R : Nat → Nat → Value) : (flat n k R).length = n * k := by simp [flat]
theorem flat_get {n k x : Nat} {R : Nat → Nat → Value} {u : Value} (h : (flat n k R)[x]? = some u) : x < n * k ∧ u = R (x / k) (x % k) := by
  have hx := (List.getElem?_eq_some_iff.1 h).1
  rw [flat_len] at hx
  refine ⟨hx, ?_⟩
  rw [flat, List.getElem?_map, List.getElem?_range hx] at h
  simpa using h.symm
theorem flat_flat {n k : Nat} {R : Nat → Nat → Value} : Flat (flat n k R) n k R := by
  intro i j hi hj
  have h1 : i * k + j < n * k := by
    have : (i + 1) * k ≤ n * k := Nat.mul_le_mul_right k (by omega)
    rw [Nat.add_mul] at this
    omega
  rw [flat, List.getElem?_map, List.getElem?_range h1]
  have h2 : (i * k + j) / k = i := by rw [Nat.mul_comm, Nat.mul_add_div (by omega), Nat.div_eq_of_lt hj]; omega
  have h3 : (i * k + j) % k = j := by rw [Nat.mul_comm, Nat.mul_add_mod, Nat.mod_eq_of_lt hj]
  simp [h2, h3]
theorem flat_news {w : World} {a : Addr} {n k : Nat} {R : Nat → Nat → Value} (h : RowsAt w (some a) n k R) : ∀ j u, (flat n k R)[j]? = some u → w.cell? (a.add j) = some u := by
  intro x u hx
  obtain ⟨hl, rfl⟩ := flat_get hx
  have hk : 0 < k := by
    rcases Nat.eq_zero_or_pos k with e | e
    · subst e; omega
    · exact e
  have hi : x / k < n := Nat.div_lt_of_lt_mul (by rw [Nat.mul_comm]; exact hl)
  obtain ⟨b, o, e, hc⟩ := h (x / k) hi
  have := hc (x % k) (Nat.mod_lt _ hk)
  cases e
  rw [Addr.add_lit]
  have e2 : o + x / k * k + x % k = o + x := by
    have := Nat.div_add_mod x k
    rw [Nat.mul_comm] at this
    omega
  rwa [e2] at this
theorem flat_one {n k : Nat} {R : Nat → Nat → Value} (h : ∀ i j, i < n → j < k → (R i j).oneCell' = true) : ∀ u ∈ flat n k R, u.oneCell' = true := by
  intro u hu
  obtain ⟨x, hx⟩ := List.getElem?_of_mem hu
  obtain ⟨hl, rfl⟩ := flat_get hx
  have hk : 0 < k := by
    rcases Nat.eq_zero_or_pos k with e | e
    · subst e; omega
    · exact e
  exact h _ _ (Nat.div_lt_of_lt_mul (by rw [Nat.mul_comm]; exact hl)) (Nat.mod_lt _ hk)

/-- What comes of a clone. -/
def ClonePost (t : TypeId) (n k : Nat) (R : Nat → Nat → Value) (w : World) (e : Ending) (w' : World) : Prop :=
  Below w.heap.size w w' ∧ ∃ g cap xs, e = .returned (.slice g n cap) ∧ w'.ownsRow w.heap.size t k (.slice g n cap) n xs ∧ Flat xs n k R
theorem clonePost_of {t : TypeId} {n k : Nat} {R : Nat → Nat → Value} {w w' : World} {v : Value} {xs : List Value} (hb : Below w.heap.size w w') (ho : w'.ownsRow w.heap.size t k v n xs) (hf : Flat xs n k R) : ClonePost t n k R w (.returned v) w' := by
  rcases ho.2 with ⟨rfl, rfl⟩ | ⟨g, cap, cur, rfl, _⟩
  · exact ⟨hb, none, 0, xs, rfl, ho, hf⟩
  · exact ⟨hb, _, cap, xs, rfl, ho, hf⟩
theorem SlOwn.own {w : World} {B : Nat} {t : TypeId} {k : Nat} {v : Value} {n b : Nat} {xs : List Value} {R : Nat → Nat → Value} (h : w.ownsRow B t k v n xs) (hf : Flat xs n k R) (hb : n * b ≤ 140737488355328) : SlOwn w B v n k b R := by
  obtain ⟨g, cap, h1, h2⟩ := rows_of_owns h hf
  refine ⟨⟨g, cap, h1, hb, h2⟩, fun j hj => ?_⟩
  obtain ⟨o, n', c', rfl⟩ := hj
  rcases h.2 with ⟨q, _⟩ | ⟨g', cap', cur, q1, q2, q3, _⟩
  · cases q
  · cases q1
    exact ⟨by omega, hlt q3⟩
theorem len_of_bytes {n b : Nat} (hb : 1 ≤ b) (h : n * b ≤ 140737488355328) : n ≤ maxLen := by
  have h1 : n * 1 ≤ n * b := Nat.mul_le_mul_left n hb
  simp only [maxLen]
  omega
theorem rows_none {w : World} {n k : Nat} {R : Nat → Nat → Value} (h : RowsAt w none n k R) : n = 0 := by
  rcases Nat.eq_zero_or_pos n with e | e
  · exact e
  · obtain ⟨b, o, q, _⟩ := h 0 e
    cases q

theorem infoCFunc : (Tryd.prog.info? 51).map (fun i => (i.zero, i.size, i.bytes)) = some (some (.agg #[.string ByteArray.empty, .int .i64 0, .int .i64 0, .slice none 0 0, .slice none 0 0, .slice none 0 0]), 6, 104) := by kernel_rfl
set_option maxRecDepth 100000 in
set_option maxHeartbeats 2000000 in
theorem cloneFunc_any {w : World} {v : Value} {n : Nat} {R : Nat → Nat → Value} (h : SlAt w v n 6 104 R) (h1 : ∀ i j, i < n → j < 6 → (R i j).oneCell' = true) :
    Calls Tryd.prog 23 #[v] w fun e w' => ClonePost 51 n 6 R w e w' := by
  obtain ⟨g, cap, rfl, hn, hr⟩ := h
  cases g with
  | none =>
    obtain rfl := rows_none hr
    clear hr h1 hn
    have q22 : ∀ (w : World) (a : Option Addr) (n c n' c' : Nat), (binOp .eql 22 (.slice a n c) (.slice none n' c')).run Tryd.prog w = .ok (.bool a.isNone) w := fun w a n c n' c' => Lib.run_eql_slice_nil w _ _ a n c n' c' Tryd.underlying22
    go_enter Tryd.func23, Tryd.ntmps23
    go_wp2_with fail
    go_ret
    exact clonePost_of (Below.refl _ _) (World.ownsRow_nil _ _ _ _) (Flat.nil _ _)
  | some a =>
    have HN := hide (flat_news hr)
    have H1 := hide (flat_one h1)
    have HM := hide (len_of_bytes (by decide) hn)
    have HB := hide hn
    obtain ⟨i0, hi, hz0, hz1, hz2⟩ := info_parts infoCFunc
    clear hr h1 hn
    have q22 : ∀ (w : World) (a : Option Addr) (n c n' c' : Nat), (binOp .eql 22 (.slice a n c) (.slice none n' c')).run Tryd.prog w = .ok (.bool a.isNone) w := fun w a n c n' c' => Lib.run_eql_slice_nil w _ _ a n c n' c' Tryd.underlying22
    go_enter Tryd.func23, Tryd.ntmps23
    go_wp2_with (at_builtin; refine wpList_append_own _ rfl _ _ 22 rfl w.heap.size 51 i0 _ 6 104 Tryd.underlying22 hi hz0 hz1 hz2 rfl (by decide) _ _ _ rfl (World.ownsRow_made w #[] 0 (Nat.le_refl _) (Nat.zero_le _) (by simp)) a n cap (flat n 6 R) rfl ?qc1 ?qc2 ?qc3 ?qc4 ?qc5 ?qc6 ?_)
    case qc1 => exact flat_len _ _ _
    case qc2 =>
      intro j u hj
      exact Lib.cell?_alloc_some _ (unhide HN j u hj)
    case qc3 => exact unhide H1
    case qc4 => rw [Nat.zero_add]; exact unhide HM
    case qc5 => rw [Nat.zero_add]; exact unhide HB
    case qc6 => simp
    intro v' w1 hown hgrow hnil
    have HO := hide hown
    have HG := hide hgrow
    clear hown hgrow hnil
    go_wp2_with fail
    go_ret
    refine clonePost_of (xs := flat n 6 R) (((Below.refl _ w).alloc (Nat.le_refl _) _).grown (unhide HG) (by simp) (by intro k hk; simp [Value.ownBlock] at hk; omega)) (by simpa using unhide HO) flat_flat

theorem infoCConst : (Tryd.prog.info? 84).map (fun i => (i.zero, i.size, i.bytes)) = some (some (.agg #[.bool false, .string ByteArray.empty, .int .i64 0]), 3, 32) := by kernel_rfl
set_option maxRecDepth 100000 in
set_option maxHeartbeats 2000000 in
theorem cloneConst_any {w : World} {v : Value} {n : Nat} {R : Nat → Nat → Value} (h : SlAt w v n 3 32 R) (h1 : ∀ i j, i < n → j < 3 → (R i j).oneCell' = true) :
    Calls Tryd.prog 24 #[v] w fun e w' => ClonePost 84 n 3 R w e w' := by
  obtain ⟨g, cap, rfl, hn, hr⟩ := h
  cases g with
  | none =>
    obtain rfl := rows_none hr
    clear hr h1 hn
    have q22 : ∀ (w : World) (a : Option Addr) (n c n' c' : Nat), (binOp .eql 23 (.slice a n c) (.slice none n' c')).run Tryd.prog w = .ok (.bool a.isNone) w := fun w a n c n' c' => Lib.run_eql_slice_nil w _ _ a n c n' c' Tryd.underlying23
    go_enter Tryd.func24, Tryd.ntmps24
    go_wp2_with fail
    go_ret
    exact clonePost_of (Below.refl _ _) (World.ownsRow_nil _ _ _ _) (Flat.nil _ _)
  | some a =>
    have HN := hide (flat_news hr)
    have H1 := hide (flat_one h1)
    have HM := hide (len_of_bytes (by decide) hn)
    have HB := hide hn
    obtain ⟨i0, hi, hz0, hz1, hz2⟩ := info_parts infoCConst
    clear hr h1 hn
    have q22 : ∀ (w : World) (a : Option Addr) (n c n' c' : Nat), (binOp .eql 23 (.slice a n c) (.slice none n' c')).run Tryd.prog w = .ok (.bool a.isNone) w := fun w a n c n' c' => Lib.run_eql_slice_nil w _ _ a n c n' c' Tryd.underlying23
    go_enter Tryd.func24, Tryd.ntmps24
    go_wp2_with (at_builtin; refine wpList_append_own _ rfl _ _ 23 rfl w.heap.size 84 i0 _ 3 32 Tryd.underlying23 hi hz0 hz1 hz2 rfl (by decide) _ _ _ rfl (World.ownsRow_made w #[] 0 (Nat.le_refl _) (Nat.zero_le _) (by simp)) a n cap (flat n 3 R) rfl ?qc1 ?qc2 ?qc3 ?qc4 ?qc5 ?qc6 ?_)
    case qc1 => exact flat_len _ _ _
    case qc2 =>
      intro j u hj
      exact Lib.cell?_alloc_some _ (unhide HN j u hj)
    case qc3 => exact unhide H1
    case qc4 => rw [Nat.zero_add]; exact unhide HM
    case qc5 => rw [Nat.zero_add]; exact unhide HB
    case qc6 => simp
    intro v' w1 hown hgrow hnil
    have HO := hide hown
    have HG := hide hgrow
    clear hown hgrow hnil
    go_wp2_with fail
    go_ret
    refine clonePost_of (xs := flat n 3 R) (((Below.refl _ w).alloc (Nat.le_refl _) _).grown (unhide HG) (by simp) (by intro k hk; simp [Value.ownBlock] at hk; omega)) (by simpa using unhide HO) flat_flat

theorem infoCClass : (Tryd.prog.info? 54).map (fun i => (i.zero, i.size, i.bytes)) = some (some (.agg #[.string ByteArray.empty, .int .i64 0, .slice none 0 0, .slice none 0 0, .slice none 0 0]), 5, 96) := by kernel_rfl
set_option maxRecDepth 100000 in
set_option maxHeartbeats 2000000 in
theorem cloneClass_any {w : World} {v : Value} {n : Nat} {R : Nat → Nat → Value} (h : SlAt w v n 5 96 R) (h1 : ∀ i j, i < n → j < 5 → (R i j).oneCell' = true) :
    Calls Tryd.prog 25 #[v] w fun e w' => ClonePost 54 n 5 R w e w' := by
  obtain ⟨g, cap, rfl, hn, hr⟩ := h
  cases g with
  | none =>
    obtain rfl := rows_none hr
    clear hr h1 hn
    have q22 : ∀ (w : World) (a : Option Addr) (n c n' c' : Nat), (binOp .eql 24 (.slice a n c) (.slice none n' c')).run Tryd.prog w = .ok (.bool a.isNone) w := fun w a n c n' c' => Lib.run_eql_slice_nil w _ _ a n c n' c' Tryd.underlying24
    go_enter Tryd.func25, Tryd.ntmps25
    go_wp2_with fail
    go_ret
    exact clonePost_of (Below.refl _ _) (World.ownsRow_nil _ _ _ _) (Flat.nil _ _)
  | some a =>
    have HN := hide (flat_news hr)
    have H1 := hide (flat_one h1)
    have HM := hide (len_of_bytes (by decide) hn)
    have HB := hide hn
    obtain ⟨i0, hi, hz0, hz1, hz2⟩ := info_parts infoCClass
    clear hr h1 hn
    have q22 : ∀ (w : World) (a : Option Addr) (n c n' c' : Nat), (binOp .eql 24 (.slice a n c) (.slice none n' c')).run Tryd.prog w = .ok (.bool a.isNone) w := fun w a n c n' c' => Lib.run_eql_slice_nil w _ _ a n c n' c' Tryd.underlying24
    go_enter Tryd.func25, Tryd.ntmps25
    go_wp2_with (at_builtin; refine wpList_append_own _ rfl _ _ 24 rfl w.heap.size 54 i0 _ 5 96 Tryd.underlying24 hi hz0 hz1 hz2 rfl (by decide) _ _ _ rfl (World.ownsRow_made w #[] 0 (Nat.le_refl _) (Nat.zero_le _) (by simp)) a n cap (flat n 5 R) rfl ?qc1 ?qc2 ?qc3 ?qc4 ?qc5 ?qc6 ?_)
    case qc1 => exact flat_len _ _ _
    case qc2 =>
      intro j u hj
      exact Lib.cell?_alloc_some _ (unhide HN j u hj)
    case qc3 => exact unhide H1
    case qc4 => rw [Nat.zero_add]; exact unhide HM
    case qc5 => rw [Nat.zero_add]; exact unhide HB
    case qc6 => simp
    intro v' w1 hown hgrow hnil
    have HO := hide hown
    have HG := hide hgrow
    clear hown hgrow hnil
    go_wp2_with fail
    go_ret
    refine clonePost_of (xs := flat n 5 R) (((Below.refl _ w).alloc (Nat.le_refl _) _).grown (unhide HG) (by simp) (by intro k hk; simp [Value.ownBlock] at hk; omega)) (by simpa using unhide HO) flat_flat

theorem infoCInstr : (Tryd.prog.info? 87).map (fun i => (i.zero, i.size, i.bytes)) = some (some (.agg #[.int .i64 0, .int .i64 0, .int .i64 0]), 3, 24) := by kernel_rfl
set_option maxRecDepth 100000 in
set_option maxHeartbeats 2000000 in
theorem cloneInstr_any {w : World} {v : Value} {n : Nat} {R : Nat → Nat → Value} (h : SlAt w v n 3 24 R) (h1 : ∀ i j, i < n → j < 3 → (R i j).oneCell' = true) :
    Calls Tryd.prog 26 #[v] w fun e w' => ClonePost 87 n 3 R w e w' := by
  obtain ⟨g, cap, rfl, hn, hr⟩ := h
  cases g with
  | none =>
    obtain rfl := rows_none hr
    clear hr h1 hn
    have q22 : ∀ (w : World) (a : Option Addr) (n c n' c' : Nat), (binOp .eql 47 (.slice a n c) (.slice none n' c')).run Tryd.prog w = .ok (.bool a.isNone) w := fun w a n c n' c' => Lib.run_eql_slice_nil w _ _ a n c n' c' Tryd.underlying47
    go_enter Tryd.func26, Tryd.ntmps26
    go_wp2_with fail
    go_ret
    exact clonePost_of (Below.refl _ _) (World.ownsRow_nil _ _ _ _) (Flat.nil _ _)
  | some a =>
    have HN := hide (flat_news hr)
    have H1 := hide (flat_one h1)
    have HM := hide (len_of_bytes (by decide) hn)
    have HB := hide hn
    obtain ⟨i0, hi, hz0, hz1, hz2⟩ := info_parts infoCInstr
    clear hr h1 hn
    have q22 : ∀ (w : World) (a : Option Addr) (n c n' c' : Nat), (binOp .eql 47 (.slice a n c) (.slice none n' c')).run Tryd.prog w = .ok (.bool a.isNone) w := fun w a n c n' c' => Lib.run_eql_slice_nil w _ _ a n c n' c' Tryd.underlying47
    go_enter Tryd.func26, Tryd.ntmps26
    go_wp2_with (at_builtin; refine wpList_append_own _ rfl _ _ 47 rfl w.heap.size 87 i0 _ 3 24 Tryd.underlying47 hi hz0 hz1 hz2 rfl (by decide) _ _ _ rfl (World.ownsRow_made w #[] 0 (Nat.le_refl _) (Nat.zero_le _) (by simp)) a n cap (flat n 3 R) rfl ?qc1 ?qc2 ?qc3 ?qc4 ?qc5 ?qc6 ?_)
    case qc1 => exact flat_len _ _ _
    case qc2 =>
      intro j u hj
      exact Lib.cell?_alloc_some _ (unhide HN j u hj)
    case qc3 => exact unhide H1
    case qc4 => rw [Nat.zero_add]; exact unhide HM
    case qc5 => rw [Nat.zero_add]; exact unhide HB
    case qc6 => simp
    intro v' w1 hown hgrow hnil
    have HO := hide hown
    have HG := hide hgrow
    clear hown hgrow hnil
    go_wp2_with fail
    go_ret
    refine clonePost_of (xs := flat n 3 R) (((Below.refl _ w).alloc (Nat.le_refl _) _).grown (unhide HG) (by simp) (by intro k hk; simp [Value.ownBlock] at hk; omega)) (by simpa using unhide HO) flat_flat

theorem infoCHandler : (Tryd.prog.info? 90).map (fun i => (i.zero, i.size, i.bytes)) = some (some (.agg #[.int .i64 0, .int .i64 0, .int .i64 0]), 3, 24) := by kernel_rfl
set_option maxRecDepth 100000 in
set_option maxHeartbeats 2000000 in
theorem cloneHandler_any {w : World} {v : Value} {n : Nat} {R : Nat → Nat → Value} (h : SlAt w v n 3 24 R) (h1 : ∀ i j, i < n → j < 3 → (R i j).oneCell' = true) :
    Calls Tryd.prog 27 #[v] w fun e w' => ClonePost 90 n 3 R w e w' := by
  obtain ⟨g, cap, rfl, hn, hr⟩ := h
  cases g with
  | none =>
    obtain rfl := rows_none hr
    clear hr h1 hn
    have q22 : ∀ (w : World) (a : Option Addr) (n c n' c' : Nat), (binOp .eql 48 (.slice a n c) (.slice none n' c')).run Tryd.prog w = .ok (.bool a.isNone) w := fun w a n c n' c' => Lib.run_eql_slice_nil w _ _ a n c n' c' Tryd.underlying48
    go_enter Tryd.func27, Tryd.ntmps27
    go_wp2_with fail
    go_ret
    exact clonePost_of (Below.refl _ _) (World.ownsRow_nil _ _ _ _) (Flat.nil _ _)
  | some a =>
    have HN := hide (flat_news hr)
    have H1 := hide (flat_one h1)
    have HM := hide (len_of_bytes (by decide) hn)
    have HB := hide hn
    obtain ⟨i0, hi, hz0, hz1, hz2⟩ := info_parts infoCHandler
    clear hr h1 hn
    have q22 : ∀ (w : World) (a : Option Addr) (n c n' c' : Nat), (binOp .eql 48 (.slice a n c) (.slice none n' c')).run Tryd.prog w = .ok (.bool a.isNone) w := fun w a n c n' c' => Lib.run_eql_slice_nil w _ _ a n c n' c' Tryd.underlying48
    go_enter Tryd.func27, Tryd.ntmps27
    go_wp2_with (at_builtin; refine wpList_append_own _ rfl _ _ 48 rfl w.heap.size 90 i0 _ 3 24 Tryd.underlying48 hi hz0 hz1 hz2 rfl (by decide) _ _ _ rfl (World.ownsRow_made w #[] 0 (Nat.le_refl _) (Nat.zero_le _) (by simp)) a n cap (flat n 3 R) rfl ?qc1 ?qc2 ?qc3 ?qc4 ?qc5 ?qc6 ?_)
    case qc1 => exact flat_len _ _ _
    case qc2 =>
      intro j u hj
      exact Lib.cell?_alloc_some _ (unhide HN j u hj)
    case qc3 => exact unhide H1
    case qc4 => rw [Nat.zero_add]; exact unhide HM
    case qc5 => rw [Nat.zero_add]; exact unhide HB
    case qc6 => simp
    intro v' w1 hown hgrow hnil
    have HO := hide hown
    have HG := hide hgrow
    clear hown hgrow hnil
    go_wp2_with fail
    go_ret
    refine clonePost_of (xs := flat n 3 R) (((Below.refl _ w).alloc (Nat.le_refl _) _).grown (unhide HG) (by simp) (by intro k hk; simp [Value.ownBlock] at hk; omega)) (by simpa using unhide HO) flat_flat

theorem infoCVar : (Tryd.prog.info? 93).map (fun i => (i.zero, i.size, i.bytes)) = some (some (.agg #[.string ByteArray.empty, .int .i64 0, .int .i64 0, .int .i64 0, .bool false]), 5, 48) := by kernel_rfl
set_option maxRecDepth 100000 in
set_option maxHeartbeats 2000000 in
theorem cloneVar_any {w : World} {v : Value} {n : Nat} {R : Nat → Nat → Value} (h : SlAt w v n 5 48 R) (h1 : ∀ i j, i < n → j < 5 → (R i j).oneCell' = true) :
    Calls Tryd.prog 28 #[v] w fun e w' => ClonePost 93 n 5 R w e w' := by
  obtain ⟨g, cap, rfl, hn, hr⟩ := h
  cases g with
  | none =>
    obtain rfl := rows_none hr
    clear hr h1 hn
    have q22 : ∀ (w : World) (a : Option Addr) (n c n' c' : Nat), (binOp .eql 49 (.slice a n c) (.slice none n' c')).run Tryd.prog w = .ok (.bool a.isNone) w := fun w a n c n' c' => Lib.run_eql_slice_nil w _ _ a n c n' c' Tryd.underlying49
    go_enter Tryd.func28, Tryd.ntmps28
    go_wp2_with fail
    go_ret
    exact clonePost_of (Below.refl _ _) (World.ownsRow_nil _ _ _ _) (Flat.nil _ _)
  | some a =>
    have HN := hide (flat_news hr)
    have H1 := hide (flat_one h1)
    have HM := hide (len_of_bytes (by decide) hn)
    have HB := hide hn
    obtain ⟨i0, hi, hz0, hz1, hz2⟩ := info_parts infoCVar
    clear hr h1 hn
    have q22 : ∀ (w : World) (a : Option Addr) (n c n' c' : Nat), (binOp .eql 49 (.slice a n c) (.slice none n' c')).run Tryd.prog w = .ok (.bool a.isNone) w := fun w a n c n' c' => Lib.run_eql_slice_nil w _ _ a n c n' c' Tryd.underlying49
    go_enter Tryd.func28, Tryd.ntmps28
    go_wp2_with (at_builtin; refine wpList_append_own _ rfl _ _ 49 rfl w.heap.size 93 i0 _ 5 48 Tryd.underlying49 hi hz0 hz1 hz2 rfl (by decide) _ _ _ rfl (World.ownsRow_made w #[] 0 (Nat.le_refl _) (Nat.zero_le _) (by simp)) a n cap (flat n 5 R) rfl ?qc1 ?qc2 ?qc3 ?qc4 ?qc5 ?qc6 ?_)
    case qc1 => exact flat_len _ _ _
    case qc2 =>
      intro j u hj
      exact Lib.cell?_alloc_some _ (unhide HN j u hj)
    case qc3 => exact unhide H1
    case qc4 => rw [Nat.zero_add]; exact unhide HM
    case qc5 => rw [Nat.zero_add]; exact unhide HB
    case qc6 => simp
    intro v' w1 hown hgrow hnil
    have HO := hide hown
    have HG := hide hgrow
    clear hown hgrow hnil
    go_wp2_with fail
    go_ret
    refine clonePost_of (xs := flat n 5 R) (((Below.refl _ w).alloc (Nat.le_refl _) _).grown (unhide HG) (by simp) (by intro k hk; simp [Value.ownBlock] at hk; omega)) (by simpa using unhide HO) flat_flat

theorem infoCStr : (Tryd.prog.info? 9).map (fun i => (i.zero, i.size, i.bytes)) = some (some (.string ByteArray.empty), 1, 16) := by kernel_rfl
set_option maxRecDepth 100000 in
set_option maxHeartbeats 2000000 in
theorem cloneStr_any {w : World} {v : Value} {n : Nat} {R : Nat → Nat → Value} (h : SlAt w v n 1 16 R) (h1 : ∀ i j, i < n → j < 1 → (R i j).oneCell' = true) :
    Calls Tryd.prog 29 #[v] w fun e w' => ClonePost 9 n 1 R w e w' := by
  obtain ⟨g, cap, rfl, hn, hr⟩ := h
  cases g with
  | none =>
    obtain rfl := rows_none hr
    clear hr h1 hn
    have q22 : ∀ (w : World) (a : Option Addr) (n c n' c' : Nat), (binOp .eql 52 (.slice a n c) (.slice none n' c')).run Tryd.prog w = .ok (.bool a.isNone) w := fun w a n c n' c' => Lib.run_eql_slice_nil w _ _ a n c n' c' Tryd.underlying52
    go_enter Tryd.func29, Tryd.ntmps29
    go_wp2_with fail
    go_ret
    exact clonePost_of (Below.refl _ _) (World.ownsRow_nil _ _ _ _) (Flat.nil _ _)
  | some a =>
    have HN := hide (flat_news hr)
    have H1 := hide (flat_one h1)
    have HM := hide (len_of_bytes (by decide) hn)
    have HB := hide hn
    obtain ⟨i0, hi, hz0, hz1, hz2⟩ := info_parts infoCStr
    clear hr h1 hn
    have q22 : ∀ (w : World) (a : Option Addr) (n c n' c' : Nat), (binOp .eql 52 (.slice a n c) (.slice none n' c')).run Tryd.prog w = .ok (.bool a.isNone) w := fun w a n c n' c' => Lib.run_eql_slice_nil w _ _ a n c n' c' Tryd.underlying52
    go_enter Tryd.func29, Tryd.ntmps29
    go_wp2_with (at_builtin; refine wpList_append_own _ rfl _ _ 52 rfl w.heap.size 9 i0 _ 1 16 Tryd.underlying52 hi hz0 hz1 hz2 rfl (by decide) _ _ _ rfl (World.ownsRow_made w #[] 0 (Nat.le_refl _) (Nat.zero_le _) (by simp)) a n cap (flat n 1 R) rfl ?qc1 ?qc2 ?qc3 ?qc4 ?qc5 ?qc6 ?_)
    case qc1 => exact flat_len _ _ _
    case qc2 =>
      intro j u hj
      exact Lib.cell?_alloc_some _ (unhide HN j u hj)
    case qc3 => exact unhide H1
    case qc4 => rw [Nat.zero_add]; exact unhide HM
    case qc5 => rw [Nat.zero_add]; exact unhide HB
    case qc6 => simp
    intro v' w1 hown hgrow hnil
    have HO := hide hown
    have HG := hide hgrow
    clear hown hgrow hnil
    go_wp2_with fail
    go_ret
    refine clonePost_of (xs := flat n 1 R) (((Below.refl _ w).alloc (Nat.le_refl _) _).grown (unhide HG) (by simp) (by intro k hk; simp [Value.ownBlock] at hk; omega)) (by simpa using unhide HO) flat_flat

theorem infoCInt : (Tryd.prog.info? 3).map (fun i => (i.zero, i.size, i.bytes)) = some (some (.int .i64 0), 1, 8) := by kernel_rfl
set_option maxRecDepth 100000 in
set_option maxHeartbeats 2000000 in
theorem cloneInt_any {w : World} {v : Value} {n : Nat} {R : Nat → Nat → Value} (h : SlAt w v n 1 8 R) (h1 : ∀ i j, i < n → j < 1 → (R i j).oneCell' = true) :
    Calls Tryd.prog 15 #[v] w fun e w' => ClonePost 3 n 1 R w e w' := by
  obtain ⟨g, cap, rfl, hn, hr⟩ := h
  cases g with
  | none =>
    obtain rfl := rows_none hr
    clear hr h1 hn
    have q22 : ∀ (w : World) (a : Option Addr) (n c n' c' : Nat), (binOp .eql 27 (.slice a n c) (.slice none n' c')).run Tryd.prog w = .ok (.bool a.isNone) w := fun w a n c n' c' => Lib.run_eql_slice_nil w _ _ a n c n' c' Tryd.underlying27
    go_enter Tryd.func15, Tryd.ntmps15
    go_wp2_with fail
    go_ret
    exact clonePost_of (Below.refl _ _) (World.ownsRow_nil _ _ _ _) (Flat.nil _ _)
  | some a =>
    have HN := hide (flat_news hr)
    have H1 := hide (flat_one h1)
    have HM := hide (len_of_bytes (by decide) hn)
    have HB := hide hn
    obtain ⟨i0, hi, hz0, hz1, hz2⟩ := info_parts infoCInt
    clear hr h1 hn
    have q22 : ∀ (w : World) (a : Option Addr) (n c n' c' : Nat), (binOp .eql 27 (.slice a n c) (.slice none n' c')).run Tryd.prog w = .ok (.bool a.isNone) w := fun w a n c n' c' => Lib.run_eql_slice_nil w _ _ a n c n' c' Tryd.underlying27
    go_enter Tryd.func15, Tryd.ntmps15
    go_wp2_with (at_builtin; refine wpList_append_own _ rfl _ _ 27 rfl w.heap.size 3 i0 _ 1 8 Tryd.underlying27 hi hz0 hz1 hz2 rfl (by decide) _ _ _ rfl (World.ownsRow_made w #[] 0 (Nat.le_refl _) (Nat.zero_le _) (by simp)) a n cap (flat n 1 R) rfl ?qc1 ?qc2 ?qc3 ?qc4 ?qc5 ?qc6 ?_)
    case qc1 => exact flat_len _ _ _
    case qc2 =>
      intro j u hj
      exact Lib.cell?_alloc_some _ (unhide HN j u hj)
    case qc3 => exact unhide H1
    case qc4 => rw [Nat.zero_add]; exact unhide HM
    case qc5 => rw [Nat.zero_add]; exact unhide HB
    case qc6 => simp
    intro v' w1 hown hgrow hnil
    have HO := hide hown
    have HG := hide hgrow
    clear hown hgrow hnil
    go_wp2_with fail
    go_ret
    refine clonePost_of (xs := flat n 1 R) (((Below.refl _ w).alloc (Nat.le_refl _) _).grown (unhide HG) (by simp) (by intro k hk; simp [Value.ownBlock] at hk; omega)) (by simpa using unhide HO) flat_flat
end Go.Proofs.YtcbgcjkcfolcoaaDoor

namespace Go.Proofs.YtcbgcjkcfolcoaaDoor
open Go.RowKit

/-- A slice with something in it lies in a block. -/
def inSl (v : Value) (j : Nat) : Prop := ∃ o n cap, 0 < n ∧ v = .slice (some ⟨j, o, none⟩) n cap
theorem SlAt.off {w w' : World} {v : Value} {n k b : Nat} {R : Nat → Nat → Value} (h : SlAt w v n k b R) (hb : ∀ j, inSl v j → w'.heap[j]? = w.heap[j]?) : SlAt w' v n k b R := by
  obtain ⟨g, cap, rfl, h2, h3⟩ := h
  refine ⟨g, cap, rfl, h2, fun i hi => ?_⟩
  obtain ⟨q, o, rfl, h5⟩ := h3 i hi
  exact ⟨q, o, rfl, fun j hj => (World.cell?_of_block (hb q ⟨o, n, cap, by omega, rfl⟩)).trans (h5 j hj)⟩
theorem SlAt.lt {w : World} {v : Value} {n k b : Nat} {R : Nat → Nat → Value} (h : SlAt w v n k b R) (hk : 0 < k) : ∀ j, inSl v j → j < w.heap.size := by
  rintro j ⟨o, n', cap', hn, rfl⟩
  obtain ⟨g, cap, e, h2, h3⟩ := h
  cases e
  obtain ⟨q, o', e, h5⟩ := h3 0 hn
  cases e
  exact cell_lt (h5 0 hk)
theorem SlOwn.far {w : World} {B : Nat} {v : Value} {n k b : Nat} {R : Nat → Nat → Value} (h : SlOwn w B v n k b R) {g : Nat} (hg : g < B) : ∀ j, inSl v j → j ≠ g := by
  rintro j ⟨o, n', cap', hn, rfl⟩
  have := (h.2 j ⟨o, n', cap', rfl⟩).1
  omega
theorem SlOwn.keep {w w' : World} {B : Nat} {v : Value} {n k b : Nat} {R : Nat → Nat → Value} (h : SlOwn w B v n k b R) (hb : Below w.heap.size w w') : SlOwn w' B v n k b R :=
  ⟨h.1.keep hb, fun j hj => ⟨(h.2 j hj).1, Nat.lt_of_lt_of_le (h.2 j hj).2 hb.size⟩⟩

/-- What a row's cells hold hangs on their values, and on the blocks in which its slices lie. -/
structure Elem {α : Type} (K : Nat) (Is : World → (Nat → Value) → α → Prop) : Prop where
  off : ∀ {w w' : World} {C : Nat → Value} {x : α}, Is w C x → (∀ c, c < K → ∀ j, inSl (C c) j → w'.heap[j]? = w.heap[j]?) → Is w' C x
  lt : ∀ {w : World} {C : Nat → Value} {x : α}, Is w C x → ∀ c, c < K → ∀ j, inSl (C c) j → j < w.heap.size
theorem elemFn : Elem 6 FnIs where
  off := fun {w w' C x} h hb => ⟨h.1, h.2.1, h.2.2.1, h.2.2.2.1.off (hb 3 (by decide)), h.2.2.2.2.1.off (hb 4 (by decide)), h.2.2.2.2.2.off (hb 5 (by decide))⟩
  lt := fun {w C x} h c hc j hj => by
    obtain ⟨h0, h1, h2, h3, h4, h5⟩ := h
    match c, hc with
    | 0, _ => obtain ⟨_, _, _, _, e⟩ := hj; rw [h0] at e; cases e
    | 1, _ => obtain ⟨_, _, _, _, e⟩ := hj; rw [h1] at e; cases e
    | 2, _ => obtain ⟨_, _, _, _, e⟩ := hj; rw [h2] at e; cases e
    | 3, _ => exact h3.lt (by decide) j hj
    | 4, _ => exact h4.lt (by decide) j hj
    | 5, _ => exact h5.lt (by decide) j hj
theorem elemKd : Elem 5 KdIs where
  off := fun {w w' C x} h hb => ⟨h.1, h.2.1, h.2.2.1.off (hb 2 (by decide)), h.2.2.2.1.off (hb 3 (by decide)), h.2.2.2.2.off (hb 4 (by decide))⟩
  lt := fun {w C x} h c hc j hj => by
    obtain ⟨h0, h1, h2, h3, h4⟩ := h
    match c, hc with
    | 0, _ => obtain ⟨_, _, _, _, e⟩ := hj; rw [h0] at e; cases e
    | 1, _ => obtain ⟨_, _, _, _, e⟩ := hj; rw [h1] at e; cases e
    | 2, _ => exact h2.lt (by decide) j hj
    | 3, _ => exact h3.lt (by decide) j hj
    | 4, _ => exact h4.lt (by decide) j hj

/-- Rows in block g, whose slices lie outside of a span of blocks. -/
structure RowOff {α : Type} (lo hi K : Nat) (Is : World → (Nat → Value) → α → Prop) (w : World) (g : Nat) (l : List α) (R : Nat → Nat → Value) : Prop where
  blk : ∃ cur t, w.heap[g]? = some (.cells cur t (0, 0)) ∧ ∀ i j, i < l.length → j < K → cur[i * K + j]? = some (R i j)
  is : ∀ i x, l[i]? = some x → Is w (R i) x
  far : ∀ i, i < l.length → ∀ c, c < K → ∀ j, inSl (R i c) j → j < lo ∨ hi ≤ j
section
variable {α : Type} {lo hi K : Nat} {Is : World → (Nat → Value) → α → Prop}
theorem RowOff.cell {w : World} {g : Nat} {l : List α} {R : Nat → Nat → Value} (h : RowOff lo hi K Is w g l R) {i j : Nat} (hi : i < l.length) (hj : j < K) : w.cell? ⟨g, i * K + j, none⟩ = some (R i j) := by
  obtain ⟨cur, t, h1, h2⟩ := h.blk
  rw [hcell h1, h2 i j hi hj]
theorem RowOff.froz {w : World} {g : Nat} {l : List α} {R : Nat → Nat → Value} (h : RowOff lo hi K Is w g l R) (i : Nat) : w.frozen? ⟨g, i, none⟩ = false := by
  obtain ⟨cur, t, h1, h2⟩ := h.blk
  exact hfroz h1 i
theorem RowOff.glt {w : World} {g : Nat} {l : List α} {R : Nat → Nat → Value} (h : RowOff lo hi K Is w g l R) : g < w.heap.size := by
  obtain ⟨cur, t, h1, h2⟩ := h.blk
  exact hlt h1
theorem RowOff.keep (E : Elem K Is) {w w' : World} {g : Nat} {l : List α} {R : Nat → Nat → Value} (h : RowOff lo hi K Is w g l R) (hb : Below w.heap.size w w') : RowOff lo hi K Is w' g l R := by
  obtain ⟨⟨cur, t, h1, h2⟩, h3, h4⟩ := h
  exact ⟨⟨cur, t, (hb.block g (hlt h1)).trans h1, h2⟩, fun i x hx => E.off (h3 i x hx) fun c hc j hj => hb.block j (E.lt (h3 i x hx) c hc j hj), h4⟩
/-- Another block of the span is turned. -/
theorem RowOff.ext (E : Elem K Is) {w w' : World} {g : Nat} {row : Option Nat} {l : List α} {R : Nat → Nat → Value} (h : RowOff lo hi K Is w g l R) (hb : w.grownBy w' row) (hr : ∀ r, row = some r → lo ≤ r ∧ r < hi ∧ g ≠ r) : RowOff lo hi K Is w' g l R := by
  obtain ⟨⟨cur, t, h1, h2⟩, h3, h4⟩ := h
  exact ⟨⟨cur, t, (hb.block g (hlt h1) (fun e => (hr g e.symm).2.2 rfl)).trans h1, h2⟩, fun i x hx => E.off (h3 i x hx) fun c hc j hj => hb.block j (E.lt (h3 i x hx) c hc j hj) (fun e => by
    have := h4 i (List.getElem?_eq_some_iff.1 hx).1 c hc j hj
    have := hr j e.symm
    omega), h4⟩
def turnR (R : Nat → Nat → Value) (i c : Nat) (v : Value) : Nat → Nat → Value := fun i' => if i' = i then fun j => if j = c then v else R i' j else R i'
theorem turnR_at (R : Nat → Nat → Value) (i c : Nat) (v : Value) : turnR R i c v i = fun j => if j = c then v else R i j := by simp [turnR]
theorem turnR_ne (R : Nat → Nat → Value) {i c : Nat} {v : Value} {i' : Nat} (h : i' ≠ i) : turnR R i c v i' = R i' := by simp [turnR, h]
/-- One cell is turned. -/
theorem RowOff.write (E : Elem K Is) {w : World} {g : Nat} {l : List α} {R : Nat → Nat → Value} (h : RowOff lo hi K Is w g l R) {i c : Nat} {x : α} {v : Value} (hx : l[i]? = some x) (hc : c < K) (hg : lo ≤ g ∧ g < hi)
    (his : Is w (turnR R i c v i) x) (hv : ∀ j, inSl v j → j < lo ∨ hi ≤ j) : RowOff lo hi K Is (w.setCell ⟨g, i * K + c, none⟩ v) g l (turnR R i c v) := by
  obtain ⟨⟨cur, t, h1, h2⟩, h3, h4⟩ := h
  have hil : i < l.length := (List.getElem?_eq_some_iff.1 hx).1
  have far : ∀ i', i' < l.length → ∀ c', c' < K → ∀ j, inSl (turnR R i c v i' c') j → j < lo ∨ hi ≤ j := by
    intro i' hi' c' hc' j hj
    by_cases e : i' = i
    · subst e
      rw [turnR_at] at hj
      by_cases e2 : c' = c
      · simp only [e2, if_pos] at hj
        exact hv j hj
      · simp only [if_neg e2] at hj
        exact h4 i' hi' c' hc' j hj
    · rw [turnR_ne R e] at hj
      exact h4 i' hi' c' hc' j hj
  refine ⟨⟨cur.setIfInBounds (i * K + c) v, t, hset h1 _ _, fun i' j hi' hj => ?_⟩, fun i' x' hx' => ?_, far⟩
  · rw [Array.getElem?_setIfInBounds]
    by_cases e : i' = i
    · subst e
      rw [turnR_at]
      by_cases e2 : j = c
      · subst e2
        have hlt : i' * K + j < cur.size := by
          have := h2 i' j hi' hj
          exact (Array.getElem?_eq_some_iff.1 this).1
        simp [hlt]
      · have : i' * K + c ≠ i' * K + j := by omega
        simp only [if_neg this, if_neg e2]
        exact h2 i' j hi' hj
    · have : i * K + c ≠ i' * K + j := by
        intro q
        apply e
        have a1 : (i * K + c) / K = i := by rw [Nat.mul_comm, Nat.mul_add_div (by omega), Nat.div_eq_of_lt hc]; omega
        have a2 : (i' * K + j) / K = i' := by rw [Nat.mul_comm, Nat.mul_add_div (by omega), Nat.div_eq_of_lt hj]; omega
        rw [← a1, q, a2]
      rw [if_neg this, turnR_ne R e]
      exact h2 i' j hi' hj
  · have base : Is w (turnR R i c v i') x' := by
      by_cases e : i' = i
      · subst e
        rw [hx] at hx'
        cases hx'
        exact his
      · rw [turnR_ne R e]
        exact h3 i' x' hx'
    exact E.off base fun c' hc' j hj => hother v (by
      have := far i' (List.getElem?_eq_some_iff.1 hx').1 c' hc' j hj
      omega)
/-- Rows that were cloned. -/
theorem RowOff.start (E : Elem K Is) {w w1 : World} {B : Nat} {t : TypeId} {v : Value} {l : List α} {xs : List Value} {R : Nat → Nat → Value} (hown : w1.ownsRow B t K v l.length xs) (hf : Flat xs l.length K R) (his : ∀ i x, l[i]? = some x → Is w (R i) x) (hb : Below w.heap.size w w1) (hi : Nat) :
    (l = [] ∧ v = .slice none 0 0) ∨ ∃ g cap, v = .slice (some ⟨g, 0, none⟩) l.length cap ∧ B ≤ g ∧ RowOff w.heap.size hi K Is w1 g l R := by
  rcases hown.2 with ⟨rfl, hn⟩ | ⟨g, cap, cur, rfl, h2, h3, h4, h5, h6, h7⟩
  · exact Or.inl ⟨List.length_eq_zero_iff.1 hn, rfl⟩
  · refine Or.inr ⟨g, cap, rfl, h2, ⟨cur, t, h3, fun i j hi hj => ?_⟩, fun i x hx => E.off (his i x hx) fun c hc j hj => hb.block j (E.lt (his i x hx) c hc j hj), fun i hi c hc j hj => ?_⟩
    · have hx := hf i j hi hj
      have h1 : i * K + j < l.length * K := by
        have : (i + 1) * K ≤ l.length * K := Nat.mul_le_mul_right K (by omega)
        rw [Nat.add_mul] at this
        omega
      rw [← Array.getElem?_toList]
      rw [← h7, List.getElem?_take] at hx
      simpa [h1] using hx
    · exact Or.inl (E.lt (his i _ (List.getElem?_eq_getElem hi)) c hc j hj)
theorem RowOff.sl {w : World} {g : Nat} {l : List α} {R : Nat → Nat → Value} (h : RowOff lo hi K Is w g l R) {b : Nat} (hb : l.length * b ≤ 140737488355328) (cap : Nat) : SlAt w (.slice (some ⟨g, 0, none⟩) l.length cap) l.length K b R :=
  ⟨_, cap, rfl, hb, fun i hi => ⟨g, 0, rfl, fun j hj => by rw [Nat.zero_add]; exact h.cell hi hj⟩⟩
end
theorem SlOwn.mono {w : World} {B B' : Nat} {v : Value} {n k b : Nat} {R : Nat → Nat → Value} (h : SlOwn w B v n k b R) (hB : B' ≤ B) : SlOwn w B' v n k b R := ⟨h.1, fun j hj => ⟨Nat.le_trans hB (h.2 j hj).1, (h.2 j hj).2⟩⟩
theorem SlOwn.span {w : World} {lo hi : Nat} {v : Value} {n k b : Nat} {R : Nat → Nat → Value} (h : SlOwn w hi v n k b R) : ∀ j, inSl v j → j < lo ∨ hi ≤ j := fun j ⟨o, n', c', _, e⟩ => Or.inr (h.2 j ⟨o, n', c', e⟩).1
theorem SlOwn.set {w : World} {hi g i : Nat} {u v : Value} {n k b : Nat} {R : Nat → Nat → Value} (h : SlOwn w hi v n k b R) (hg : g < hi) : SlOwn (w.setCell ⟨g, i, none⟩ u) hi v n k b R :=
  ⟨h.1.far fun j hj => hother u (by have := (h.2 j hj).1; omega), fun j hj => ⟨(h.2 j hj).1, by simpa [World.setCell] using (h.2 j hj).2⟩⟩
/-- A function's three rows are turned. -/
theorem fn_step {lo hi g k : Nat} {wr w3 : World} {l : List PF} {R : Nat → Nat → Value} {x : PF} {v1 v2 v3 : Value} (h : RowOff lo hi 6 FnIs wr g l R) (hx : l[k]? = some x) (hg : lo ≤ g ∧ g < hi) (hb : Below wr.heap.size wr w3)
    (s1 : SlOwn w3 hi v1 x.code.length 3 24 (instrRow x.code)) (s2 : SlOwn w3 hi v2 x.hands.length 3 24 (handRow x.hands)) (s3 : SlOwn w3 hi v3 x.vars.length 5 48 (varRow x.vars)) :
    RowOff lo hi 6 FnIs (((w3.setCell ⟨g, k * 6 + 3, none⟩ v1).setCell ⟨g, k * 6 + 4, none⟩ v2).setCell ⟨g, k * 6 + 5, none⟩ v3) g l (turnR (turnR (turnR R k 3 v1) k 4 v2) k 5 v3) := by
  have h0 := h.keep elemFn hb
  have f0 := h0.is k x hx
  have h1 := h0.write elemFn hx (c := 3) (by decide) hg (by rw [turnR_at]; exact ⟨f0.1, f0.2.1, f0.2.2.1, s1.1, f0.2.2.2.2.1, f0.2.2.2.2.2⟩) s1.span
  have f1 := h1.is k x hx
  have h2 := h1.write elemFn hx (c := 4) (by decide) hg (by rw [turnR_at]; exact ⟨f1.1, f1.2.1, f1.2.2.1, f1.2.2.2.1, (s2.set hg.2).1, f1.2.2.2.2.2⟩) s2.span
  have f2 := h2.is k x hx
  exact h2.write elemFn hx (c := 5) (by decide) hg (by rw [turnR_at]; exact ⟨f2.1, f2.2.1, f2.2.2.1, f2.2.2.2.1, f2.2.2.2.2.1, ((s3.set hg.2).set hg.2).1⟩) s3.span
/-- A class's three rows are turned. -/
theorem kd_step {lo hi g k : Nat} {wr w3 : World} {l : List PK} {R : Nat → Nat → Value} {x : PK} {v1 v2 v3 : Value} (h : RowOff lo hi 5 KdIs wr g l R) (hx : l[k]? = some x) (hg : lo ≤ g ∧ g < hi) (hb : Below wr.heap.size wr w3)
    (s1 : SlOwn w3 hi v1 x.fields.length 1 16 (strRow x.fields)) (s2 : SlOwn w3 hi v2 x.names.length 1 16 (strRow x.names)) (s3 : SlOwn w3 hi v3 x.meths.length 1 8 (intRow x.meths)) :
    RowOff lo hi 5 KdIs (((w3.setCell ⟨g, k * 5 + 2, none⟩ v1).setCell ⟨g, k * 5 + 3, none⟩ v2).setCell ⟨g, k * 5 + 4, none⟩ v3) g l (turnR (turnR (turnR R k 2 v1) k 3 v2) k 4 v3) := by
  have h0 := h.keep elemKd hb
  have f0 := h0.is k x hx
  have h1 := h0.write elemKd hx (c := 2) (by decide) hg (by rw [turnR_at]; exact ⟨f0.1, f0.2.1, s1.1, f0.2.2.2.1, f0.2.2.2.2⟩) s1.span
  have f1 := h1.is k x hx
  have h2 := h1.write elemKd hx (c := 3) (by decide) hg (by rw [turnR_at]; exact ⟨f1.1, f1.2.1, f1.2.2.1, (s2.set hg.2).1, f1.2.2.2.2⟩) s2.span
  have f2 := h2.is k x hx
  exact h2.write elemKd hx (c := 4) (by decide) hg (by rw [turnR_at]; exact ⟨f2.1, f2.2.1, f2.2.2.1, f2.2.2.2.1, ((s3.set hg.2).set hg.2).1⟩) s3.span
theorem grown_step {r a b c : Nat} {row : Option Nat} {w0 w w3 : World} {v1 v2 v3 : Value} (h : w0.grownBy w row) (hr : row = some r) (hb : Below w.heap.size w w3) : w0.grownBy (((w3.setCell ⟨r, a, none⟩ v1).setCell ⟨r, b, none⟩ v2).setCell ⟨r, c, none⟩ v3) row := by
  refine ⟨hb.os.trans h.os, hb.tape.trans h.tape, hb.output.trans h.output, by simpa [World.setCell] using Nat.le_trans h.size hb.size, fun k hk hn => ?_⟩
  have hne : k ≠ r := fun e => hn (by rw [hr, e])
  rw [hother v3 hne, hother v2 hne, hother v1 hne, hb.block k (Nat.lt_of_lt_of_le hk h.size)]
  exact h.block k hk hn
/-- A slice's rows, in a block of the span. -/
def RowIn {α : Type} (lo hi K : Nat) (Is : World → (Nat → Value) → α → Prop) (w : World) (v : Value) (l : List α) (R : Nat → Nat → Value) : Prop :=
  (l = [] ∧ v = .slice none 0 0) ∨ ∃ g cap, v = .slice (some ⟨g, 0, none⟩) l.length cap ∧ lo ≤ g ∧ g < hi ∧ RowOff lo hi K Is w g l R
section
variable {α : Type} {lo hi K : Nat} {Is : World → (Nat → Value) → α → Prop}
theorem RowIn.ext (E : Elem K Is) {w w' : World} {v : Value} {row : Option Nat} {l : List α} {R : Nat → Nat → Value} (h : RowIn lo hi K Is w v l R) (hb : w.grownBy w' row) (hr : ∀ r, row = some r → lo ≤ r ∧ r < hi ∧ v.ownBlock ≠ some r) : RowIn lo hi K Is w' v l R := by
  rcases h with h | ⟨g, cap, rfl, h1, h2, h3⟩
  · exact Or.inl h
  · exact Or.inr ⟨g, cap, rfl, h1, h2, h3.ext E hb fun r e => ⟨(hr r e).1, (hr r e).2.1, fun q => (hr r e).2.2 (by rw [q]; rfl)⟩⟩
theorem RowIn.sl {w : World} {v : Value} {l : List α} {R : Nat → Nat → Value} (h : RowIn lo hi K Is w v l R) {b : Nat} (hb : l.length * b ≤ 140737488355328) : SlAt w v l.length K b R := by
  rcases h with ⟨rfl, rfl⟩ | ⟨g, cap, rfl, h1, h2, h3⟩
  · exact ⟨none, 0, rfl, by simp, fun i hi => absurd hi (Nat.not_lt_zero i)⟩
  · exact h3.sl hb cap
theorem RowIn.is {w : World} {v : Value} {l : List α} {R : Nat → Nat → Value} (h : RowIn lo hi K Is w v l R) : ∀ i x, l[i]? = some x → Is w (R i) x := by
  rcases h with ⟨rfl, rfl⟩ | ⟨g, cap, rfl, h1, h2, h3⟩
  · intro i x hx; simp at hx
  · exact h3.is
theorem RowIn.form {w : World} {v : Value} {l : List α} {R : Nat → Nat → Value} (h : RowIn lo hi K Is w v l R) : ∃ g cap, v = .slice g l.length cap := by
  rcases h with ⟨rfl, rfl⟩ | ⟨g, cap, rfl, _⟩
  · exact ⟨none, 0, rfl⟩
  · exact ⟨_, cap, rfl⟩
end
/-- The copy, ahead of its rows' own. -/
structure Cop (w wc : World) (m : PM) (cb : Nat) (v1 v2 v3 : Value) (RF RK : Nat → Nat → Value) : Prop where
  below : Below w.heap.size w wc
  blk : wc.heap[cb]? = some (.cells #[v1, v2, v3] 26 (0, 0))
  lo : w.heap.size ≤ cb
  fs : RowIn w.heap.size wc.heap.size 6 FnIs wc v1 m.funcs RF
  cs : ConstsAt wc v2 m.consts
  ks : RowIn w.heap.size wc.heap.size 5 KdIs wc v3 m.classes RK
  o1 : ∀ j, v1.ownBlock = some j → w.heap.size ≤ j ∧ j < cb
  o3 : ∀ j, v3.ownBlock = some j → w.heap.size ≤ j ∧ j < cb
  n12 : ∀ j, v1.ownBlock = some j → v2.ownBlock ≠ some j
  n13 : ∀ j, v1.ownBlock = some j → v3.ownBlock ≠ some j
  n32 : ∀ j, v3.ownBlock = some j → v2.ownBlock ≠ some j
theorem cop_make {w w0 w1 w2 w3 : World} {m : PM} {v1 v2 v3 : Value} {RF RK : Nat → Nat → Value} {x1 x2 x3 : List Value} {tF tC tK : TypeId} (hF : ∀ i f, m.funcs[i]? = some f → FnIs w (RF i) f) (hK : ∀ i f, m.classes[i]? = some f → KdIs w (RK i) f)
    (nc : m.consts.length * 32 ≤ 140737488355328) (hb0 : Below w.heap.size w w0) (hs : w0.heap.size = w.heap.size)
    (hb1 : Below w0.heap.size w0 w1) (o1 : w1.ownsRow w0.heap.size tF 6 v1 m.funcs.length x1) (f1 : Flat x1 m.funcs.length 6 RF)
    (hb2 : Below w1.heap.size w1 w2) (o2 : w2.ownsRow w1.heap.size tC 3 v2 m.consts.length x2) (f2 : Flat x2 m.consts.length 3 (constRow m.consts))
    (hb3 : Below w2.heap.size w2 w3) (o3 : w3.ownsRow w2.heap.size tK 5 v3 m.classes.length x3) (f3 : Flat x3 m.classes.length 5 RK) :
    Cop w (w3.alloc (.cells #[v1, v2, v3] 26)) m w3.heap.size v1 v2 v3 RF RK := by
  have b1 : Below w.heap.size w w1 := hb0.trans (hb1.mono (by omega))
  have b2 : Below w.heap.size w w2 := b1.trans (hb2.mono b1.size)
  have b3 : Below w.heap.size w w3 := b2.trans (hb3.mono b2.size)
  have ha : Below w3.heap.size w3 (w3.alloc (.cells #[v1, v2, v3] 26)) := (Below.refl _ _).alloc (Nat.le_refl _) _
  have b4 : Below w.heap.size w (w3.alloc (.cells #[v1, v2, v3] 26)) := b3.trans (ha.mono b3.size)
  have l1 := o1.lt
  have l2 := o2.lt
  have l3 := o3.lt
  have z1 := hb1.size
  have z2 := hb2.size
  have z3 := hb3.size
  have szz : (w3.alloc (.cells #[v1, v2, v3] 26)).heap.size = w3.heap.size + 1 := by simp
  have hk : Below w1.heap.size w1 (w3.alloc (.cells #[v1, v2, v3] 26)) := (hb2.trans (hb3.mono hb2.size)).trans (ha.mono (Nat.le_trans z2 z3))
  refine ⟨b4, hnew _ _, b3.size, ?_, ?_, ?_, fun j hj => ?_, fun j hj => ?_, fun j hj q => ?_, fun j hj q => ?_, fun j hj q => ?_⟩
  · rcases RowOff.start elemFn o1 f1 hF b1 (w3.heap.size + 1) with h | ⟨g, cap, rfl, h1, h2⟩
    · exact Or.inl h
    · have := h2.glt
      exact Or.inr ⟨g, cap, rfl, by omega, by omega, by rw [szz]; exact h2.keep elemFn hk⟩
  · obtain ⟨g, cap, q1, q2⟩ := rows_of_owns o2 f2
    have : ConstsAt w2 v2 m.consts := ⟨g, cap, q1, nc, q2⟩
    exact this.keep (hb3.trans (ha.mono z3))
  · rcases RowOff.start elemKd o3 f3 hK b3 (w3.heap.size + 1) with h | ⟨g, cap, rfl, h1, h2⟩
    · exact Or.inl h
    · have := h2.glt
      exact Or.inr ⟨g, cap, rfl, by omega, by omega, by rw [szz]; exact h2.keep elemKd ha⟩
  · have := l1 j hj; omega
  · have := l3 j hj; omega
  · have := l1 j hj; have := l2 j q; omega
  · have := l1 j hj; have := l3 j q; omega
  · have := l3 j hj; have := l2 j q; omega
theorem lies_own {v : Value} {j : Nat} (h : liesIn v j) : v.ownBlock = some j := by
  obtain ⟨o, n, c, rfl⟩ := h
  rfl
/-- Behind the first loop. -/
theorem Cop.next {w wc wr : World} {m : PM} {cb : Nat} {v1 v2 v3 : Value} {RF RK : Nat → Nat → Value} (h : Cop w wc m cb v1 v2 v3 RF RK) (hg : wc.grownBy wr v1.ownBlock) :
    Below w.heap.size w wr ∧ wr.heap[cb]? = some (.cells #[v1, v2, v3] 26 (0, 0)) ∧ ConstsAt wr v2 m.consts ∧ RowIn w.heap.size wc.heap.size 5 KdIs wr v3 m.classes RK := by
  have hcb := hlt h.blk
  refine ⟨⟨hg.os.trans h.below.os, hg.tape.trans h.below.tape, hg.output.trans h.below.output, Nat.le_trans h.below.size hg.size, fun k hk => (hg.block k (Nat.lt_of_lt_of_le hk h.below.size) (fun e => by have := h.o1 k e.symm; omega)).trans (h.below.block k hk)⟩,
    (hg.block cb hcb (fun e => by have := h.o1 cb e.symm; omega)).trans h.blk, ?_, h.ks.ext elemKd hg fun r e => ⟨(h.o1 r e).1, by have := (h.o1 r e).2; omega, h.n13 r e⟩⟩
  obtain ⟨g, cap, q1, q2, q3⟩ := h.cs
  refine SlAt.off ⟨g, cap, q1, q2, q3⟩ fun j hj => hg.block j (SlAt.lt ⟨g, cap, q1, q2, q3⟩ (by decide) j hj) fun e => ?_
  obtain ⟨o, n, c, _, e2⟩ := hj
  exact h.n12 j e.symm (by rw [e2]; rfl)
/-- Behind the second loop. -/
theorem Cop.last {w wc wr ws : World} {m : PM} {cb : Nat} {v1 v2 v3 : Value} {RF RK R R3 : Nat → Nat → Value} (h : Cop w wc m cb v1 v2 v3 RF RK) (hg : wc.grownBy wr v1.ownBlock) (hr : RowIn w.heap.size wc.heap.size 6 FnIs wr v1 m.funcs R)
    (hg2 : wr.grownBy ws v3.ownBlock) (hr2 : RowIn w.heap.size wc.heap.size 5 KdIs ws v3 m.classes R3) (nf : m.funcs.length * 104 ≤ 140737488355328) (nk : m.classes.length * 96 ≤ 140737488355328) :
    Below w.heap.size w ws ∧ ImgAt ws cb m v1 v2 v3 := by
  obtain ⟨p1, p2, p3, p4⟩ := h.next hg
  have hcb := hlt p2
  have hcb0 := hlt h.blk
  have hk : ws.heap[cb]? = some (.cells #[v1, v2, v3] 26 (0, 0)) := (hg2.block cb hcb (fun e => by have := h.o3 cb e.symm; omega)).trans p2
  have hf := hr.ext elemFn hg2 fun r e => ⟨(h.o3 r e).1, by have := (h.o3 r e).2; omega, fun q => h.n13 r q e⟩
  refine ⟨⟨hg2.os.trans p1.os, hg2.tape.trans p1.tape, hg2.output.trans p1.output, Nat.le_trans p1.size hg2.size, fun k hk => (hg2.block k (Nat.lt_of_lt_of_le hk p1.size) (fun e => by have := h.o3 k e.symm; omega)).trans (p1.block k hk)⟩, hcell hk 0, hcell hk 1, hcell hk 2, ⟨R, hf.sl nf, hf.is⟩, ?_, ⟨R3, hr2.sl nk, hr2.is⟩⟩
  obtain ⟨g, cap, q1, q2, q3⟩ := p3
  refine SlAt.off ⟨g, cap, q1, q2, q3⟩ fun j hj => hg2.block j (SlAt.lt ⟨g, cap, q1, q2, q3⟩ (by decide) j hj) fun e => ?_
  obtain ⟨o, n, c, _, e2⟩ := hj
  exact h.n32 j e.symm (by rw [e2]; rfl)
theorem row1_fn {w : World} {C : Nat → Value} {f : PF} (h : FnIs w C f) : ∀ j, j < 6 → (C j).oneCell' = true := by
  obtain ⟨h0, h1, h2, ⟨g3, c3, h3, _⟩, ⟨g4, c4, h4, _⟩, ⟨g5, c5, h5, _⟩⟩ := h
  intro j hj
  match j, hj with
  | 0, _ => rw [h0]; rfl
  | 1, _ => rw [h1]; rfl
  | 2, _ => rw [h2]; rfl
  | 3, _ => rw [h3]; rfl
  | 4, _ => rw [h4]; rfl
  | 5, _ => rw [h5]; rfl
theorem row1_kd {w : World} {C : Nat → Value} {f : PK} (h : KdIs w C f) : ∀ j, j < 5 → (C j).oneCell' = true := by
  obtain ⟨h0, h1, ⟨g3, c3, h3, _⟩, ⟨g4, c4, h4, _⟩, ⟨g5, c5, h5, _⟩⟩ := h
  intro j hj
  match j, hj with
  | 0, _ => rw [h0]; rfl
  | 1, _ => rw [h1]; rfl
  | 2, _ => rw [h3]; rfl
  | 3, _ => rw [h4]; rfl
  | 4, _ => rw [h5]; rfl
theorem row1_instr (l : List PI) : ∀ i j, i < l.length → j < 3 → (instrRow l i j).oneCell' = true := by
  intro i j hi hj
  rw [instrRow, List.getElem?_eq_getElem hi]
  match j, hj with
  | 0, _ => rfl
  | 1, _ => rfl
  | 2, _ => rfl
theorem row1_hand (l : List PH) : ∀ i j, i < l.length → j < 3 → (handRow l i j).oneCell' = true := by
  intro i j hi hj
  rw [handRow, List.getElem?_eq_getElem hi]
  match j, hj with
  | 0, _ => rfl
  | 1, _ => rfl
  | 2, _ => rfl
theorem row1_var (l : List PV) : ∀ i j, i < l.length → j < 5 → (varRow l i j).oneCell' = true := by
  intro i j hi hj
  rw [varRow, List.getElem?_eq_getElem hi]
  match j, hj with
  | 0, _ => rfl
  | 1, _ => rfl
  | 2, _ => rfl
  | 3, _ => rfl
  | 4, _ => rfl
theorem row1_const (l : List PC) : ∀ i j, i < l.length → j < 3 → (constRow l i j).oneCell' = true := by
  intro i j hi hj
  rw [constRow, List.getElem?_eq_getElem hi]
  match j, hj with
  | 0, _ => rfl
  | 1, _ => rfl
  | 2, _ => rfl
theorem row1_str (l : List ByteArray) : ∀ i j, i < l.length → j < 1 → (strRow l i j).oneCell' = true := by
  intro i j hi hj
  rw [strRow, List.getElem?_eq_getElem hi]
  rfl
theorem row1_int (l : List Int) : ∀ i j, i < l.length → j < 1 → (intRow l i j).oneCell' = true := by
  intro i j hi hj
  rw [intRow, List.getElem?_eq_getElem hi]
  rfl
end Go.Proofs.YtcbgcjkcfolcoaaDoor
