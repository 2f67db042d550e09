/-
  A part of a heap, in memory.
  Objects are found, and read, in general.
  An object's fields, in general.
  Objects and fields are read, in general.
-/
import Derived.Test.YtddfdefgdlfpmaaM03
import Derived.Deep.OwnRows
namespace Go.Proofs.Ytddfdefgdlfpmaa
open Go.RowKit

/-- A value of the heap. -/
structure HV where
  kind : Int
  n : Int
  s : ByteArray
/-- An object, with its fields. -/
structure HO where
  kind : Int
  tag : Int
  id : Int
  fs : List HV
  noted : Bool
def vCells (v : HV) : List Value := [.int .i64 v.kind, .int .i64 v.n, .string v.s]
def oCells (b : Nat) (x : HO) : List Value := [.int .i64 x.kind, .int .i64 x.tag, .int .i64 x.id, .int .i64 b, .int .i64 x.fs.length, .bool x.noted]
/-- The objects' row: each one tells where its fields begin. -/
def rowO : Nat → List HO → List Value
  | _, [] => []
  | b, x :: r => oCells b x ++ rowO (b + x.fs.length) r
def allF (l : List HO) : List HV := l.flatMap HO.fs
def rowF (l : List HO) : List Value := (allF l).flatMap vCells
theorem rowO_length : ∀ (b : Nat) (l : List HO), (rowO b l).length = l.length * 6
  | _, [] => rfl
  | b, x :: r => by
    rw [rowO, List.length_append, rowO_length _ r, List.length_cons]
    simp [oCells]
    omega
theorem vals_length : ∀ l : List HV, (l.flatMap vCells).length = l.length * 3
  | [] => rfl
  | v :: r => by
    rw [List.flatMap_cons, List.length_append, vals_length r, List.length_cons]
    simp [vCells]
    omega
theorem rowO_append : ∀ (b : Nat) (l r : List HO), rowO b (l ++ r) = rowO b l ++ rowO (b + (allF l).length) r
  | b, [], r => by simp [rowO, allF]
  | b, x :: l, r => by
    rw [List.cons_append, rowO, rowO, rowO_append _ l r, List.append_assoc]
    congr 2
    simp [allF, Nat.add_assoc]
/-- Where an object's fields begin. -/
def beginAt (l : List HO) (i : Nat) : Nat := (allF (l.take i)).length
theorem rowO_get {l : List HO} {i : Nat} {x : HO} (h : l[i]? = some x) {j : Nat} (hj : j < 6) : (rowO 0 l)[i * 6 + j]? = (oCells (beginAt l i) x)[j]? := by
  have hi := (List.getElem?_eq_some_iff.1 h).1
  have h2 : l = l.take i ++ x :: l.drop (i + 1) := by
    have := (List.getElem?_eq_some_iff.1 h).2
    rw [← this, List.getElem_cons_drop, List.take_append_drop]
  have h3 : (rowO 0 (l.take i)).length = i * 6 := by rw [rowO_length, List.length_take]; omega
  have h4 : rowO 0 l = rowO 0 (l.take i) ++ (oCells (beginAt l i) x ++ rowO (beginAt l i + x.fs.length) (l.drop (i + 1))) := by
    have := rowO_append 0 (l.take i) (x :: l.drop (i + 1))
    rw [← h2] at this
    rw [this, rowO, Nat.zero_add]
    rfl
  rw [h4, List.getElem?_append_right (by omega), h3, show i * 6 + j - i * 6 = j by omega, List.getElem?_append_left (by simp [oCells]; omega)]
theorem vals_get : ∀ {l : List HV} {i : Nat} {v : HV}, l[i]? = some v → ∀ {j : Nat}, j < 3 → (l.flatMap vCells)[i * 3 + j]? = (vCells v)[j]?
  | v :: r, 0, _, h, j, hj => by
    cases h
    rw [List.flatMap_cons, Nat.zero_mul, Nat.zero_add, List.getElem?_append_left (by simp [vCells]; omega)]
  | u :: r, i + 1, v, h, j, hj => by
    rw [List.flatMap_cons, List.getElem?_append_right (by simp [vCells]; omega), ← vals_get (l := r) (i := i) (by simpa using h) hj]
    congr 1
    simp [vCells]
    omega
/-- The i-th object's fields among all. -/
theorem allF_get {l : List HO} {i : Nat} {x : HO} (h : l[i]? = some x) {k : Nat} (hk : k < x.fs.length) : (allF l)[beginAt l i + k]? = x.fs[k]? := by
  have h2 : l = l.take i ++ x :: l.drop (i + 1) := by
    have := (List.getElem?_eq_some_iff.1 h).2
    rw [← this, List.getElem_cons_drop, List.take_append_drop]
  have h4 : allF l = allF (l.take i) ++ (x.fs ++ allF (l.drop (i + 1))) := by
    have := congrArg allF h2
    rw [this]
    simp [allF]
  rw [h4]
  unfold beginAt
  rw [List.getElem?_append_right (by omega), Nat.add_sub_cancel_left, List.getElem?_append_left hk]
theorem begin_le {l : List HO} {i : Nat} {x : HO} (h : l[i]? = some x) : beginAt l i + x.fs.length ≤ (allF l).length := by
  have h2 : l = l.take i ++ x :: l.drop (i + 1) := by
    have := (List.getElem?_eq_some_iff.1 h).2
    rw [← this, List.getElem_cons_drop, List.take_append_drop]
  have h4 : allF l = allF (l.take i) ++ (x.fs ++ allF (l.drop (i + 1))) := by
    have := congrArg allF h2
    rw [this]
    simp [allF]
  rw [h4]
  unfold beginAt
  simp only [List.length_append]
  omega

/-- A part at a place of the heap's block: its first address, its objects. -/
structure Pt (B : Nat) (w : World) (b o : Nat) (first : Int) (vo vf : Value) (l : List HO) : Prop where
  c0 : w.cell? ⟨b, o, none⟩ = some (.int .i64 first)
  c1 : w.cell? ⟨b, o + 1, none⟩ = some vo
  c2 : w.cell? ⟨b, o + 2, none⟩ = some vf
  objs : w.ownsRow B 56 6 vo l.length (rowO 0 l)
  flds : w.ownsRow B 34 3 vf (allF l).length (rowF l)
theorem owns_get {w : World} {B : Nat} {e : TypeId} {k : Nat} {v : Value} {n : Nat} {xs : List Value} (h : w.ownsRow B e k v n xs) {j : Nat} (hj : j < n * k) : ∃ g cap, v = .slice (some ⟨g, 0, none⟩) n cap ∧ n ≤ cap ∧ w.cell? ⟨g, j, none⟩ = xs[j]? ∧ w.frozen? ⟨g, j, none⟩ = false := by
  rcases h.2 with ⟨rfl, rfl⟩ | ⟨g, cap, cur, rfl, h2, h3, h4, h5, h6, h7⟩
  · omega
  · refine ⟨g, cap, rfl, h4, ?_, hfroz h3 j⟩
    rw [hcell h3 j, ← h7, List.getElem?_take_of_lt hj]
    simp
end Go.Proofs.Ytddfdefgdlfpmaa

namespace Go.Proofs.Ytddfdefgdlfpmaa
open Go.RowKit

theorem owns_form {w : World} {B : Nat} {e : TypeId} {k : Nat} {v : Value} {n : Nat} {xs : List Value} (h : w.ownsRow B e k v n xs) : ∃ g cap, v = .slice g n cap := by
  rcases h.2 with ⟨rfl, rfl⟩ | ⟨g, cap, cur, rfl, _⟩
  · exact ⟨none, 0, rfl⟩
  · exact ⟨_, cap, rfl⟩
theorem owns_keep {w w' : World} {B : Nat} {e : TypeId} {k : Nat} {v : Value} {n : Nat} {xs : List Value} (h : w.ownsRow B e k v n xs) (hb : Below w.heap.size w w') : w'.ownsRow B e k v n xs := by
  refine ⟨h.1, ?_⟩
  rcases h.2 with q | ⟨g, cap, cur, h1, h2, h3, h4⟩
  · exact Or.inl q
  · exact Or.inr ⟨g, cap, cur, h1, h2, (hb.block g (hlt h3)).trans h3, h4⟩
/-- A heap: both parts, how many cells they have, which old objects are noted, where identities lie, and the counts. -/
structure PHp where
  fy : Int
  fo : Int
  ry : Int
  ro : Int
  Y : List HO
  O : List HO
  noted : List Int
  last : Int
  minors : Int
  majors : Int
def hpCells (P : PHp) (vyo vyf voo vof vn : Value) (mb : Nat) : Array Value := #[.int .i64 P.fy, vyo, vyf, .int .i64 P.fo, voo, vof, .int .i64 P.ry, .int .i64 P.ro, vn, .map (some mb), .int .i64 P.last, .int .i64 P.minors, .int .i64 P.majors]
structure HpAt (B : Nat) (w : World) (h mb : Nat) (P : PHp) (vyo vyf voo vof vn : Value) : Prop where
  blk : w.heap[h]? = some (.cells (hpCells P vyo vyf voo vof vn mb) 51 (0, 0))
  yo : w.ownsRow B 56 6 vyo P.Y.length (rowO 0 P.Y)
  yf : w.ownsRow B 34 3 vyf (allF P.Y).length (rowF P.Y)
  oo : w.ownsRow B 56 6 voo P.O.length (rowO 0 P.O)
  of' : w.ownsRow B 34 3 vof (allF P.O).length (rowF P.O)
  nt : w.ownsRow B 3 1 vn P.noted.length (P.noted.map iv)
theorem HpAt.keep {B : Nat} {w w' : World} {h mb : Nat} {P : PHp} {vyo vyf voo vof vn : Value} (k : HpAt B w h mb P vyo vyf voo vof vn) (hb : Below w.heap.size w w') : HpAt B w' h mb P vyo vyf voo vof vn :=
  ⟨(hb.block h (hlt k.blk)).trans k.blk, owns_keep k.yo hb, owns_keep k.yf hb, owns_keep k.oo hb, owns_keep k.of' hb, owns_keep k.nt hb⟩
/-- Addresses are not too great; those of the nursery are odd, those of the old part even. -/
structure Small (P : PHp) : Prop where
  y0 : 0 ≤ P.fy
  o0 : 0 ≤ P.fo
  y1 : P.fy + 2 * P.Y.length ≤ 4611686018427387904
  o1 : P.fo + 2 * P.O.length ≤ 4611686018427387904
  yo : P.fy % 2 = 1
  oe : P.fo % 2 = 0
/-- What lies at an address: in which part, as which one. -/
def Found (P : PHp) (a : Int) : Option (Bool × Nat) → Prop
  | some (true, i) => i < P.Y.length ∧ a = P.fy + 2 * i
  | some (false, i) => i < P.O.length ∧ a = P.fo + 2 * i
  | none => (∀ i : Nat, i < P.Y.length → a ≠ P.fy + 2 * i) ∧ ∀ i : Nat, i < P.O.length → a ≠ P.fo + 2 * i
theorem Found.young {P : PHp} {a : Int} (i : Nat) (hi : i < P.Y.length) (e : a = P.fy + 2 * i) : Found P a (some (true, i)) := ⟨hi, e⟩
theorem Found.old {P : PHp} {a : Int} (i : Nat) (hi : i < P.O.length) (e : a = P.fo + 2 * i) : Found P a (some (false, i)) := ⟨hi, e⟩
theorem Found.none {P : PHp} {a : Int} (hy : ∀ i : Nat, i < P.Y.length → a ≠ P.fy + 2 * i) (ho : ∀ i : Nat, i < P.O.length → a ≠ P.fo + 2 * i) : Found P a Option.none := ⟨hy, ho⟩
theorem Found.parts {P : PHp} {a : Int} {motive : (r : Option (Bool × Nat)) → Found P a r → Prop} (young : ∀ (i : Nat) (hi : i < P.Y.length) (e : a = P.fy + 2 * i), motive (some (true, i)) (Found.young i hi e)) (old : ∀ (i : Nat) (hi : i < P.O.length) (e : a = P.fo + 2 * i), motive (some (false, i)) (Found.old i hi e)) (none : ∀ (hy : ∀ i : Nat, i < P.Y.length → a ≠ P.fy + 2 * i) (ho : ∀ i : Nat, i < P.O.length → a ≠ P.fo + 2 * i), motive Option.none (Found.none hy ho)) : (r : Option (Bool × Nat)) → (h : Found P a r) → motive r h
  | some (true, i), h => young i h.1 h.2
  | some (false, i), h => old i h.1 h.2
  | .none, h => none h.1 h.2
def foundV (h : Nat) : Option (Bool × Nat) → Value
  | some (true, i) => .tuple #[.pointer (some ⟨h, 0, none⟩), .int .i64 i]
  | some (false, i) => .tuple #[.pointer (some ⟨h, 3, none⟩), .int .i64 i]
  | none => .tuple #[.pointer none, .int .i64 0]
def FindPost (P : PHp) (h : Nat) (a : Int) (w : World) (e : Ending) (w' : World) : Prop := ∃ r, Found P a r ∧ e = .returned (foundV h r) ∧ Below w.heap.size w w'

set_option maxRecDepth 100000 in
set_option maxHeartbeats 2000000 in
theorem find_any {B : Nat} {w : World} {h mb : Nat} {P : PHp} {vyo vyf voo vof vn : Value} (k : HpAt B w h mb P vyo vyf voo vof vn) (hs : Small P) {a : Int} (ha : I64 a) :
    Calls Try.prog 21 #[.pointer (some ⟨h, 0, none⟩), .int .i64 a] w fun e w' => FindPost P h a w e w' := by
  have K := hide k
  have HS := hide hs
  have HA := hide ha
  have i0 := ix0
  have i1 := ix1
  obtain ⟨gy, cy, rfl⟩ := owns_form k.yo
  obtain ⟨go, co, rfl⟩ := owns_form k.oo
  clear k hs ha
  go_enter Try.func21, Try.ntmps21
  go_wp2_with fail
  refine wp_region_held_drew (S := (fun _ => True)) (by kernel_rfl) trivial (fun hHeld => ?_)
  refine wpAnyH_take (i := 0) (oi := { dst := some 12, op := _, type := _, pos := _, after := _, guard := _ }) (v := ?_) rfl (by kernel_rfl) (by kernel_rfl) (by kernel_rfl) (fun _ _ _ h => h) (Or.inl ⟨by rfl, ?_⟩) (by assumption) ?_
  case refine_2 =>
    intro w hSw
    try dsimp only at hSw
    go_simp
    try with_reducible rfl
  simp only [Act.put, List.setIfInBounds_toArray, List.set_cons_zero, List.set_cons_succ]
  refine wpAnyH_take (i := 1) (oi := { dst := some 13, op := _, type := _, pos := _, after := _, guard := _ }) (v := ?_) rfl (by kernel_rfl) (by kernel_rfl) (by kernel_rfl) (fun _ _ _ h => h) (Or.inl ⟨by rfl, ?_⟩) (by assumption) ?_
  case refine_2 =>
    intro w hSw
    try dsimp only at hSw
    go_simp
    try with_reducible rfl
  simp only [Act.put, List.setIfInBounds_toArray, List.set_cons_zero, List.set_cons_succ]
  refine wpAnyH_take (i := 2) (oi := { dst := some 14, op := _, type := _, pos := _, after := _, guard := _ }) (v := ?_) rfl (by kernel_rfl) (by kernel_rfl) (by kernel_rfl) (fun _ _ _ h => h) (Or.inl ⟨by rfl, ?_⟩) (by assumption) ?_
  case refine_2 =>
    intro w hSw
    try dsimp only at hSw
    go_simp
    try with_reducible rfl
  simp only [Act.put, List.setIfInBounds_toArray, List.set_cons_zero, List.set_cons_succ]
  refine wpAnyH_take (i := 3) (oi := { dst := some 15, op := _, type := _, pos := _, after := _, guard := _ }) (v := ?_) rfl (by kernel_rfl) (by kernel_rfl) (by kernel_rfl) (fun _ _ _ h => h) (Or.inl ⟨by rfl, ?_⟩) (by assumption) ?_
  case refine_2 =>
    intro w hSw
    try dsimp only at hSw
    go_simp
    try with_reducible rfl
  simp only [Act.put, List.setIfInBounds_toArray, List.set_cons_zero, List.set_cons_succ]
  refine wpAnyH_take (i := 4) (oi := { dst := some 16, op := _, type := _, pos := _, after := _, guard := _ }) (v := ?_) rfl (by kernel_rfl) (by kernel_rfl) (by kernel_rfl) (fun _ _ _ h => h) (Or.inl ⟨by rfl, ?_⟩) (by assumption) ?_
  case refine_2 =>
    intro w hSw
    try dsimp only at hSw
    go_simp
    try with_reducible rfl
  simp only [Act.put, List.setIfInBounds_toArray, List.set_cons_zero, List.set_cons_succ]
  refine wpAnyH_take (i := 5) (oi := { dst := some 17, op := _, type := _, pos := _, after := _, guard := _ }) (v := ?_) rfl (by kernel_rfl) (by kernel_rfl) (by kernel_rfl) (fun _ _ _ h => h) (Or.inl ⟨by rfl, ?_⟩) (by assumption) ?_
  case refine_2 =>
    intro w hSw
    try dsimp only at hSw
    go_simp
    try with_reducible rfl
  simp only [Act.put, List.setIfInBounds_toArray, List.set_cons_zero, List.set_cons_succ]
  refine wpAnyH_take (i := 6) (oi := { dst := some 18, op := _, type := _, pos := _, after := _, guard := _ }) (v := ?_) rfl (by kernel_rfl) (by kernel_rfl) (by kernel_rfl) (fun _ _ _ h => h) (Or.inl ⟨by rfl, ?_⟩) (by assumption) ?_
  case refine_2 =>
    intro w hSw
    try dsimp only at hSw
    go_simp
    try with_reducible rfl
  simp only [Act.put, List.setIfInBounds_toArray, List.set_cons_zero, List.set_cons_succ]
  refine wpAnyH_take (i := 7) (oi := { dst := some 19, op := _, type := _, pos := _, after := _, guard := _ }) (v := ?_) rfl (by kernel_rfl) (by kernel_rfl) (by kernel_rfl) (fun _ _ _ h => h) (Or.inl ⟨by rfl, ?_⟩) (by assumption) ?_
  case refine_2 =>
    intro w hSw
    try dsimp only at hSw
    go_simp
    try with_reducible rfl
  simp only [Act.put, List.setIfInBounds_toArray, List.set_cons_zero, List.set_cons_succ]
  refine wpAnyH_done (by kernel_rfl) ?_ _
  have HB := hide (Below.drew (Below.refl w.heap.size w))
  go_wp2_with fail
  refine wp_loop_rounds 3 ?_
  rw [rounds_succ]
  go_wp2_with fail
  refine (number_any (hcell ((unhide K).keep (unhide HB)).blk 0) (hcell ((unhide K).keep (unhide HB)).blk 1) (unhide HA) (unhide HS).y0 (unhide HS).y1).mono ?_
  rintro e w1 ⟨q, ok, rfl, hb1, ht, hf⟩
  have HB1 := hide ((unhide HB).trans (hb1.mono (unhide HB).size))
  clear hb1
  cases ok with
  | true =>
    obtain ⟨i, hi, rfl, hai⟩ := ht rfl
    have HI := hide (show Found P a (some (true, i)) from .young i hi hai)
    clear ht hf hi hai
    go_wp2_with fail
    go_ret2
    exact ⟨_, unhide HI, rfl, unhide HB1⟩
  | false =>
    have HNY := hide (hf rfl)
    clear ht hf
    go_wp2_with fail
    rw [rounds_succ]
    go_wp2_with fail
    refine (number_any (hcell ((unhide K).keep (unhide HB1)).blk 3) (hcell ((unhide K).keep (unhide HB1)).blk 4) (unhide HA) (unhide HS).o0 (unhide HS).o1).mono ?_
    rintro e w2 ⟨q2, ok, rfl, hb2, ht, hf⟩
    have HB2 := hide ((unhide HB1).trans (hb2.mono (unhide HB1).size))
    clear hb2
    cases ok with
    | true =>
      obtain ⟨i, hi, rfl, hai⟩ := ht rfl
      have HI := hide (show Found P a (some (false, i)) from .old i hi hai)
      clear ht hf hi hai
      go_wp2_with fail
      go_ret2
      exact ⟨_, unhide HI, rfl, unhide HB2⟩
    | false =>
      have HI := hide (show Found P a none from .none (unhide HNY) (hf rfl))
      clear ht hf
      go_wp2_with fail
      rw [rounds_succ]
      go_wp2_with fail
      go_ret2
      exact ⟨_, unhide HI, rfl, unhide HB2⟩
end Go.Proofs.Ytddfdefgdlfpmaa

namespace Go.Proofs.Ytddfdefgdlfpmaa
open Go.RowKit

/-- A part's cells, wherever they lie. -/
structure PtAt (B : Nat) (w : World) (b o : Nat) (l : List HO) (vo vf : Value) : Prop where
  c1 : w.cell? ⟨b, o + 1, none⟩ = some vo
  c2 : w.cell? ⟨b, o + 2, none⟩ = some vf
  objs : w.ownsRow B 56 6 vo l.length (rowO 0 l)
  flds : w.ownsRow B 34 3 vf (allF l).length (rowF l)
  few : (allF l).length ≤ 10000000
theorem PtAt.keep {B : Nat} {w w' : World} {b o : Nat} {l : List HO} {vo vf : Value} (h : PtAt B w b o l vo vf) (hb : Below w.heap.size w w') : PtAt B w' b o l vo vf :=
  ⟨cellk hb h.c1 (cell_lt h.c1), cellk hb h.c2 (cell_lt h.c2), owns_keep h.objs hb, owns_keep h.flds hb, h.few⟩
/-- The object's cells. -/
theorem PtAt.obj {B : Nat} {w : World} {b o : Nat} {l : List HO} {vo vf : Value} (h : PtAt B w b o l vo vf) {i : Nat} {x : HO} (hx : l[i]? = some x) : ∃ g cap, vo = .slice (some ⟨g, 0, none⟩) l.length cap ∧ w.cell? ⟨g, i * 6, none⟩ = some (.int .i64 x.kind) ∧ w.cell? ⟨g, i * 6 + 1, none⟩ = some (.int .i64 x.tag) ∧ w.cell? ⟨g, i * 6 + 2, none⟩ = some (.int .i64 x.id) ∧ w.cell? ⟨g, i * 6 + 3, none⟩ = some (.int .i64 (beginAt l i)) ∧ w.cell? ⟨g, i * 6 + 4, none⟩ = some (.int .i64 x.fs.length) ∧ w.cell? ⟨g, i * 6 + 5, none⟩ = some (.bool x.noted) := by
  have hi := (List.getElem?_eq_some_iff.1 hx).1
  obtain ⟨g, cap, rfl, hc⟩ : ∃ g cap, vo = .slice (some ⟨g, 0, none⟩) l.length cap ∧ ∀ j, j < l.length * 6 → w.cell? ⟨g, j, none⟩ = (rowO 0 l)[j]? := by
    rcases h.objs.2 with ⟨_, q⟩ | ⟨g, cap, cur, rfl, _, h3, _, _, _, h7⟩
    · omega
    · exact ⟨g, cap, rfl, fun j hj => by rw [hcell h3 j, ← h7, List.getElem?_take_of_lt hj]; simp⟩
  have key : ∀ j, j < 6 → w.cell? ⟨g, i * 6 + j, none⟩ = (oCells (beginAt l i) x)[j]? := fun j hj => by
    rw [hc _ (by omega), rowO_get hx hj]
  exact ⟨g, cap, rfl, key 0 (by omega), key 1 (by omega), key 2 (by omega), key 3 (by omega), key 4 (by omega), key 5 (by omega)⟩
/-- The fields' slice. -/
def HasPost (l : List HO) (i : Nat) (x : HO) (vf : Value) (w : World) (e : Ending) (w' : World) : Prop := Below w.heap.size w w' ∧ ∃ g' cap', e = .returned (.slice g' x.fs.length cap') ∧ x.fs.length ≤ cap' ∧ (0 < x.fs.length → ∃ g cap, vf = .slice (some ⟨g, 0, none⟩) (allF l).length cap ∧ g' = some ⟨g, beginAt l i * 3, none⟩ ∧ cap' = cap - beginAt l i)

set_option maxRecDepth 100000 in
set_option maxHeartbeats 4000000 in
theorem has_any {B : Nat} {w : World} {b o : Nat} {l : List HO} {vo vf : Value} (h : PtAt B w b o l vo vf) {i : Nat} {x : HO} (hx : l[i]? = some x) :
    Calls Try.prog 22 #[.pointer (some ⟨b, o, none⟩), .int .i64 i] w fun e w' => HasPost l i x vf w e w' := by
  have hi := (List.getElem?_eq_some_iff.1 hx).1
  have hbl := begin_le hx
  have hfew := h.few
  obtain ⟨g, cap, rfl, a0, a1, a2, a3, a4, a5⟩ := h.obj hx
  obtain ⟨gf, cf, hvf⟩ := owns_form h.flds
  have HFL := hide h.flds
  have k1 := h.c1
  have k2 := h.c2
  subst hvf
  have hcf : (allF l).length ≤ cf := by
    rcases h.flds.2 with ⟨q, q2⟩ | ⟨_, _, _, q, _, _, q4, _⟩
    · omega
    · cases q
      exact q4
  have hi2 : (i : Int) < (l.length : Int) := by omega
  have s1 : (beginAt l i : Int) + (x.fs.length : Int) ≤ (cf : Int) := by omega
  have wr : IntKind.i64.wrap ((beginAt l i : Int) + (x.fs.length : Int)) = (beginAt l i : Int) + (x.fs.length : Int) := wrap_id (by omega) (by omega)
  have s0 : (0 : Int) ≤ (beginAt l i : Int) + (x.fs.length : Int) := by omega
  have hto : ((beginAt l i : Int) + (x.fs.length : Int)).toNat = beginAt l i + x.fs.length := by omega
  have hsub : beginAt l i + x.fs.length - beginAt l i = x.fs.length := by omega
  have HCF := hide hcf
  have HBL := hide hbl
  clear h hx hcf hbl hfew
  by_cases hce : cf = beginAt l i
  · have HCE := hide hce
    have s3 : (beginAt l i : Int) + (x.fs.length : Int) ≤ (beginAt l i : Int) := by have := unhide HCF; have := unhide HBL; omega
    go_enter Try.func22, Try.ntmps22
    go_wp2_with fail
    refine wp_region_held_drew (S := (fun w' => w'.cell? ⟨b, o + 2, none⟩ = some (.slice gf (allF l).length cf) ∧ w'.cell? ⟨w.heap.size, 3, none⟩ = some (.int .i64 (beginAt l i)) ∧ w'.cell? ⟨w.heap.size, 4, none⟩ = some (.int .i64 x.fs.length))) (by kernel_rfl) ⟨cell_al k2 _, hcell (hnew _ _) 3, hcell (hnew _ _) 4⟩ (fun hHeld => ?_)
    refine wpAnyH_take (i := 0) (oi := { dst := some 13, op := _, type := _, pos := _, after := _, guard := _ }) (v := ?_) rfl (by kernel_rfl) (by kernel_rfl) (by kernel_rfl) (fun _ _ _ h => h) (Or.inl ⟨by rfl, ?_⟩) (by assumption) ?_
    case refine_2 =>
      intro w hSw
      try dsimp only at hSw
      go_simp
      try with_reducible rfl
    simp only [Act.put, List.setIfInBounds_toArray, List.set_cons_zero, List.set_cons_succ]
    refine wpAnyH_take (i := 1) (oi := { dst := some 14, op := _, type := _, pos := _, after := _, guard := _ }) (v := ?_) rfl (by kernel_rfl) (by kernel_rfl) (by kernel_rfl) (fun _ _ _ h => h) (Or.inl ⟨by rfl, ?_⟩) (by assumption) ?_
    case refine_2 =>
      intro w hSw
      try dsimp only at hSw
      go_simp
      try with_reducible rfl
    simp only [Act.put, List.setIfInBounds_toArray, List.set_cons_zero, List.set_cons_succ]
    refine wpAnyH_take (i := 2) (oi := { dst := some 15, op := _, type := _, pos := _, after := _, guard := _ }) (v := ?_) rfl (by kernel_rfl) (by kernel_rfl) (by kernel_rfl) (fun _ _ _ h => h) (Or.inl ⟨by rfl, ?_⟩) (by assumption) ?_
    case refine_2 =>
      intro w hSw
      try dsimp only at hSw
      go_simp
      try with_reducible rfl
    simp only [Act.put, List.setIfInBounds_toArray, List.set_cons_zero, List.set_cons_succ]
    refine wpAnyH_take (i := 3) (oi := { dst := some 16, op := _, type := _, pos := _, after := _, guard := _ }) (v := ?_) rfl (by kernel_rfl) (by kernel_rfl) (by kernel_rfl) (fun _ _ _ h => h) (Or.inl ⟨by rfl, ?_⟩) (by assumption) ?_
    case refine_2 =>
      intro w hSw
      try dsimp only at hSw
      go_simp
      try with_reducible rfl
    simp only [Act.put, List.setIfInBounds_toArray, List.set_cons_zero, List.set_cons_succ]
    refine wpAnyH_take (i := 4) (oi := { dst := some 17, op := _, type := _, pos := _, after := _, guard := _ }) (v := ?_) rfl (by kernel_rfl) (by kernel_rfl) (by kernel_rfl) (fun _ _ _ h => h) (Or.inl ⟨by rfl, ?_⟩) (by assumption) ?_
    case refine_2 =>
      intro w hSw
      try dsimp only at hSw
      go_simp
      try with_reducible rfl
    simp only [Act.put, List.setIfInBounds_toArray, List.set_cons_zero, List.set_cons_succ]
    refine wpAnyH_take (i := 5) (oi := { dst := some 18, op := _, type := _, pos := _, after := _, guard := _ }) (v := ?_) rfl (by kernel_rfl) (by kernel_rfl) (by kernel_rfl) (fun _ _ _ h => h) (Or.inl ⟨by rfl, ?_⟩) (by assumption) ?_
    case refine_2 =>
      intro w hSw
      try dsimp only at hSw
      go_simp
      try with_reducible rfl
    simp only [Act.put, List.setIfInBounds_toArray, List.set_cons_zero, List.set_cons_succ]
    refine wpAnyH_take (i := 6) (oi := { dst := some 19, op := _, type := _, pos := _, after := _, guard := _ }) (v := ?_) rfl (by kernel_rfl) (by kernel_rfl) (by kernel_rfl) (fun _ _ _ h => h) (Or.inl ⟨by rfl, ?_⟩) (by assumption) ?_
    case refine_2 =>
      intro w hSw
      try dsimp only at hSw
      go_simp
      try with_reducible rfl
    simp only [Act.put, List.setIfInBounds_toArray, List.set_cons_zero, List.set_cons_succ]
    refine wpAnyH_take (i := 7) (oi := { dst := some 20, op := _, type := _, pos := _, after := _, guard := _ }) (v := ?_) rfl (by kernel_rfl) (by kernel_rfl) (by kernel_rfl) (fun _ _ _ h => h) (Or.inl ⟨by rfl, ?_⟩) (by assumption) ?_
    case refine_2 =>
      intro w hSw
      try dsimp only at hSw
      go_simp
      try with_reducible rfl
    simp only [Act.put, List.setIfInBounds_toArray, List.set_cons_zero, List.set_cons_succ]
    refine wpAnyH_take (i := 8) (oi := { dst := some 21, op := _, type := _, pos := _, after := _, guard := _ }) (v := ?_) rfl (by kernel_rfl) (by kernel_rfl) (by kernel_rfl) (fun _ _ _ h => h) (Or.inl ⟨by rfl, ?_⟩) (by assumption) ?_
    case refine_2 =>
      intro w hSw
      try dsimp only at hSw
      go_simp
      try with_reducible rfl
    simp only [Act.put, List.setIfInBounds_toArray, List.set_cons_zero, List.set_cons_succ]
    refine wpAnyH_take (i := 9) (oi := { dst := some 22, op := _, type := _, pos := _, after := _, guard := _ }) (v := ?_) rfl (by kernel_rfl) (by kernel_rfl) (by kernel_rfl) (fun _ _ _ h => h) (Or.inl ⟨by rfl, ?_⟩) (by assumption) ?_
    case refine_2 =>
      intro w hSw
      try dsimp only at hSw
      go_simp
      try with_reducible rfl
    simp only [Act.put, List.setIfInBounds_toArray, List.set_cons_zero, List.set_cons_succ]
    refine wpAnyH_take (i := 10) (oi := { dst := some 23, op := _, type := _, pos := _, after := _, guard := _ }) (v := ?_) rfl (by kernel_rfl) (by kernel_rfl) (by kernel_rfl) (fun _ _ _ h => h) (Or.inl ⟨by rfl, ?_⟩) (by assumption) ?_
    case refine_2 =>
      intro w hSw
      try dsimp only at hSw
      go_simp
      try with_reducible rfl
    simp only [Act.put, List.setIfInBounds_toArray, List.set_cons_zero, List.set_cons_succ]
    refine wpAnyH_take (i := 11) (oi := { dst := some 24, op := _, type := _, pos := _, after := _, guard := _ }) (v := ?_) rfl (by kernel_rfl) (by kernel_rfl) (by kernel_rfl) (fun _ _ _ h => h) (Or.inl ⟨by rfl, ?_⟩) (by assumption) ?_
    case refine_2 =>
      intro w hSw
      try dsimp only at hSw
      go_simp
      try with_reducible rfl
    simp only [Act.put, List.setIfInBounds_toArray, List.set_cons_zero, List.set_cons_succ]
    refine wpAnyH_take (i := 12) (oi := { dst := some 4, op := _, type := _, pos := _, after := _, guard := _ }) (v := ?_) rfl (by kernel_rfl) (by kernel_rfl) (by kernel_rfl) (fun _ _ _ h => h) (Or.inl ⟨by rfl, ?_⟩) (by assumption) ?_
    case refine_2 =>
      intro w hSw
      try dsimp only at hSw
      go_simp
      try with_reducible rfl
    simp only [Act.put, List.setIfInBounds_toArray, List.set_cons_zero, List.set_cons_succ]
    refine wpAnyH_done (by kernel_rfl) ?_ _
    go_wp2_with fail
    go_ret
    refine ⟨Below.drew ((Below.refl _ _).alloc (Nat.le_refl _) _), _, _, rfl, by have := unhide HCF; have := unhide HBL; have := unhide HCE; omega, fun hp => ?_⟩
    have := unhide HCF
    have := unhide HBL
    have := unhide HCE
    omega
  · have HCE := hide hce
    go_enter Try.func22, Try.ntmps22
    go_wp2_with fail
    refine wp_region_held_drew (S := (fun w' => w'.cell? ⟨b, o + 2, none⟩ = some (.slice gf (allF l).length cf) ∧ w'.cell? ⟨w.heap.size, 3, none⟩ = some (.int .i64 (beginAt l i)) ∧ w'.cell? ⟨w.heap.size, 4, none⟩ = some (.int .i64 x.fs.length))) (by kernel_rfl) ⟨cell_al k2 _, hcell (hnew _ _) 3, hcell (hnew _ _) 4⟩ (fun hHeld => ?_)
    refine wpAnyH_take (i := 0) (oi := { dst := some 13, op := _, type := _, pos := _, after := _, guard := _ }) (v := ?_) rfl (by kernel_rfl) (by kernel_rfl) (by kernel_rfl) (fun _ _ _ h => h) (Or.inl ⟨by rfl, ?_⟩) (by assumption) ?_
    case refine_2 =>
      intro w hSw
      try dsimp only at hSw
      go_simp
      try with_reducible rfl
    simp only [Act.put, List.setIfInBounds_toArray, List.set_cons_zero, List.set_cons_succ]
    refine wpAnyH_take (i := 1) (oi := { dst := some 14, op := _, type := _, pos := _, after := _, guard := _ }) (v := ?_) rfl (by kernel_rfl) (by kernel_rfl) (by kernel_rfl) (fun _ _ _ h => h) (Or.inl ⟨by rfl, ?_⟩) (by assumption) ?_
    case refine_2 =>
      intro w hSw
      try dsimp only at hSw
      go_simp
      try with_reducible rfl
    simp only [Act.put, List.setIfInBounds_toArray, List.set_cons_zero, List.set_cons_succ]
    refine wpAnyH_take (i := 2) (oi := { dst := some 15, op := _, type := _, pos := _, after := _, guard := _ }) (v := ?_) rfl (by kernel_rfl) (by kernel_rfl) (by kernel_rfl) (fun _ _ _ h => h) (Or.inl ⟨by rfl, ?_⟩) (by assumption) ?_
    case refine_2 =>
      intro w hSw
      try dsimp only at hSw
      go_simp
      try with_reducible rfl
    simp only [Act.put, List.setIfInBounds_toArray, List.set_cons_zero, List.set_cons_succ]
    refine wpAnyH_take (i := 3) (oi := { dst := some 16, op := _, type := _, pos := _, after := _, guard := _ }) (v := ?_) rfl (by kernel_rfl) (by kernel_rfl) (by kernel_rfl) (fun _ _ _ h => h) (Or.inl ⟨by rfl, ?_⟩) (by assumption) ?_
    case refine_2 =>
      intro w hSw
      try dsimp only at hSw
      go_simp
      try with_reducible rfl
    simp only [Act.put, List.setIfInBounds_toArray, List.set_cons_zero, List.set_cons_succ]
    refine wpAnyH_take (i := 4) (oi := { dst := some 17, op := _, type := _, pos := _, after := _, guard := _ }) (v := ?_) rfl (by kernel_rfl) (by kernel_rfl) (by kernel_rfl) (fun _ _ _ h => h) (Or.inl ⟨by rfl, ?_⟩) (by assumption) ?_
    case refine_2 =>
      intro w hSw
      try dsimp only at hSw
      go_simp
      try with_reducible rfl
    simp only [Act.put, List.setIfInBounds_toArray, List.set_cons_zero, List.set_cons_succ]
    refine wpAnyH_take (i := 5) (oi := { dst := some 18, op := _, type := _, pos := _, after := _, guard := _ }) (v := ?_) rfl (by kernel_rfl) (by kernel_rfl) (by kernel_rfl) (fun _ _ _ h => h) (Or.inl ⟨by rfl, ?_⟩) (by assumption) ?_
    case refine_2 =>
      intro w hSw
      try dsimp only at hSw
      go_simp
      try with_reducible rfl
    simp only [Act.put, List.setIfInBounds_toArray, List.set_cons_zero, List.set_cons_succ]
    refine wpAnyH_take (i := 6) (oi := { dst := some 19, op := _, type := _, pos := _, after := _, guard := _ }) (v := ?_) rfl (by kernel_rfl) (by kernel_rfl) (by kernel_rfl) (fun _ _ _ h => h) (Or.inl ⟨by rfl, ?_⟩) (by assumption) ?_
    case refine_2 =>
      intro w hSw
      try dsimp only at hSw
      go_simp
      try with_reducible rfl
    simp only [Act.put, List.setIfInBounds_toArray, List.set_cons_zero, List.set_cons_succ]
    refine wpAnyH_take (i := 7) (oi := { dst := some 20, op := _, type := _, pos := _, after := _, guard := _ }) (v := ?_) rfl (by kernel_rfl) (by kernel_rfl) (by kernel_rfl) (fun _ _ _ h => h) (Or.inl ⟨by rfl, ?_⟩) (by assumption) ?_
    case refine_2 =>
      intro w hSw
      try dsimp only at hSw
      go_simp
      try with_reducible rfl
    simp only [Act.put, List.setIfInBounds_toArray, List.set_cons_zero, List.set_cons_succ]
    refine wpAnyH_take (i := 8) (oi := { dst := some 21, op := _, type := _, pos := _, after := _, guard := _ }) (v := ?_) rfl (by kernel_rfl) (by kernel_rfl) (by kernel_rfl) (fun _ _ _ h => h) (Or.inl ⟨by rfl, ?_⟩) (by assumption) ?_
    case refine_2 =>
      intro w hSw
      try dsimp only at hSw
      go_simp
      try with_reducible rfl
    simp only [Act.put, List.setIfInBounds_toArray, List.set_cons_zero, List.set_cons_succ]
    refine wpAnyH_take (i := 9) (oi := { dst := some 22, op := _, type := _, pos := _, after := _, guard := _ }) (v := ?_) rfl (by kernel_rfl) (by kernel_rfl) (by kernel_rfl) (fun _ _ _ h => h) (Or.inl ⟨by rfl, ?_⟩) (by assumption) ?_
    case refine_2 =>
      intro w hSw
      try dsimp only at hSw
      go_simp
      try with_reducible rfl
    simp only [Act.put, List.setIfInBounds_toArray, List.set_cons_zero, List.set_cons_succ]
    refine wpAnyH_take (i := 10) (oi := { dst := some 23, op := _, type := _, pos := _, after := _, guard := _ }) (v := ?_) rfl (by kernel_rfl) (by kernel_rfl) (by kernel_rfl) (fun _ _ _ h => h) (Or.inl ⟨by rfl, ?_⟩) (by assumption) ?_
    case refine_2 =>
      intro w hSw
      try dsimp only at hSw
      go_simp
      try with_reducible rfl
    simp only [Act.put, List.setIfInBounds_toArray, List.set_cons_zero, List.set_cons_succ]
    refine wpAnyH_take (i := 11) (oi := { dst := some 24, op := _, type := _, pos := _, after := _, guard := _ }) (v := ?_) rfl (by kernel_rfl) (by kernel_rfl) (by kernel_rfl) (fun _ _ _ h => h) (Or.inl ⟨by rfl, ?_⟩) (by assumption) ?_
    case refine_2 =>
      intro w hSw
      try dsimp only at hSw
      go_simp
      try with_reducible rfl
    simp only [Act.put, List.setIfInBounds_toArray, List.set_cons_zero, List.set_cons_succ]
    refine wpAnyH_take (i := 12) (oi := { dst := some 4, op := _, type := _, pos := _, after := _, guard := _ }) (v := ?_) rfl (by kernel_rfl) (by kernel_rfl) (by kernel_rfl) (fun _ _ _ h => h) (Or.inl ⟨by rfl, ?_⟩) (by assumption) ?_
    case refine_2 =>
      intro w hSw
      try dsimp only at hSw
      go_simp
      try with_reducible rfl
    simp only [Act.put, List.setIfInBounds_toArray, List.set_cons_zero, List.set_cons_succ]
    refine wpAnyH_done (by kernel_rfl) ?_ _
    go_wp2_with fail
    go_ret
    refine ⟨Below.drew ((Below.refl _ _).alloc (Nat.le_refl _) _), _, _, rfl, by have := unhide HCF; have := unhide HBL; omega, fun hp => ?_⟩
    rcases (unhide HFL).2 with ⟨q, q2⟩ | ⟨g2, cap2, _, q, _⟩
    · have := unhide HBL
      omega
    · cases q
      exact ⟨g2, _, rfl, by simp [Addr.add]; intro hh; omega, rfl⟩
end Go.Proofs.Ytddfdefgdlfpmaa

namespace Go.Proofs.Ytddfdefgdlfpmaa
open Go.RowKit

/-- Not too many fields, nor objects. -/
structure Few (P : PHp) : Prop where
  y : (allF P.Y).length ≤ 10000000
  o : (allF P.O).length ≤ 10000000
theorem HpAt.young {B : Nat} {w : World} {h mb : Nat} {P : PHp} {vyo vyf voo vof vn : Value} (k : HpAt B w h mb P vyo vyf voo vof vn) (hf : Few P) : PtAt B w h 0 P.Y vyo vyf := ⟨hcell k.blk 1, hcell k.blk 2, k.yo, k.yf, hf.y⟩
theorem HpAt.old {B : Nat} {w : World} {h mb : Nat} {P : PHp} {vyo vyf voo vof vn : Value} (k : HpAt B w h mb P vyo vyf voo vof vn) (hf : Few P) : PtAt B w h 3 P.O voo vof := ⟨hcell k.blk 4, hcell k.blk 5, k.oo, k.of', hf.o⟩
/-- The object that was found, and where its fields begin. -/
def objOf (P : PHp) : Option (Bool × Nat) → Option (Nat × HO)
  | some (true, i) => P.Y[i]?.map fun x => (beginAt P.Y i, x)
  | some (false, i) => P.O[i]?.map fun x => (beginAt P.O i, x)
  | none => none
def zeroO : HO := ⟨0, 0, 0, [], false⟩
def objV : Option (Nat × HO) → Value
  | some (b, x) => .agg (oCells b x).toArray
  | none => .agg (oCells 0 zeroO).toArray
def ObjPost (P : PHp) (a : Int) (w : World) (e : Ending) (w' : World) : Prop := ∃ r, Found P a r ∧ e = .returned (objV (objOf P r)) ∧ Below w.heap.size w w'

set_option maxRecDepth 100000 in
set_option maxHeartbeats 4000000 in
theorem object_any {B : Nat} {w : World} {h mb : Nat} {P : PHp} {vyo vyf voo vof vn : Value} (k : HpAt B w h mb P vyo vyf voo vof vn) (hs : Small P) (hfw : Few P) {a : Int} (ha : I64 a) :
    Calls Try.prog 19 #[.pointer (some ⟨h, 0, none⟩), .int .i64 a] w fun e w' => ObjPost P a w e w' := by
  have K := hide k
  have HS := hide hs
  have HFW := hide hfw
  have HBA := hide (fun o => (Below.refl w.heap.size w).alloc (Nat.le_refl _) o)
  clear k hs hfw
  go_enter Try.func19, Try.ntmps19
  go_wp2_with fail
  refine (find_any ((unhide K).keep (unhide HBA _)) (unhide HS) ha).mono ?_
  rintro e w1 ⟨r, hr, rfl, hb1⟩
  have hk := (hb1.block w.heap.size (by simp)).trans (hnew w _)
  have k0 := hcell hk 0
  have f0 := hfroz hk 0
  have k1 := hcell hk 1
  have f1 := hfroz hk 1
  have k2 := hcell hk 2
  have f2 := hfroz hk 2
  have k3 := hcell hk 3
  have f3 := hfroz hk 3
  have k4 := hcell hk 4
  have f4 := hfroz hk 4
  have k5 := hcell hk 5
  have f5 := hfroz hk 5
  have HB := hide ((unhide HBA _).trans (hb1.mono (by simp)))
  have HK := hide hk
  clear hb1 hk ha
  cases r, hr using Found.parts with
  | young i hi he =>
    obtain ⟨x, hx⟩ : ∃ x, P.Y[i]? = some x := ⟨P.Y[i], List.getElem?_eq_getElem hi⟩
    obtain ⟨g, cap, hvo, a0, a1, a2, a3, a4, a5⟩ := (((unhide K).keep (unhide HB)).young (unhide HFW)).obj hx
    subst hvo
    have c1 : w1.cell? ⟨h, 1, none⟩ = some (.slice (some ⟨g, 0, none⟩) P.Y.length cap) := (((unhide K).keep (unhide HB)).young (unhide HFW)).c1
    have hi2 : (i : Int) < (P.Y.length : Int) := by omega
    have HF := hide (show Found P a (some (true, i)) from .young i hi he)
    have HX := hide hx
    clear hi he hx
    simp only [foundV]
    go_wp2_with fail
    have hz := (hset (hset (hset (hset (hset (hset (unhide HK) 0 (.int .i64 x.kind)) 1 (.int .i64 x.tag)) 2 (.int .i64 x.id)) 3 (.int .i64 (beginAt P.Y i))) 4 (.int .i64 x.fs.length)) 5 (.bool x.noted))
    have HBZ := (((((((unhide HB).setCell (p := ⟨w.heap.size, 0, none⟩) (Nat.le_refl _) (.int .i64 x.kind)).setCell (p := ⟨w.heap.size, 1, none⟩) (Nat.le_refl _) (.int .i64 x.tag)).setCell (p := ⟨w.heap.size, 2, none⟩) (Nat.le_refl _) (.int .i64 x.id)).setCell (p := ⟨w.heap.size, 3, none⟩) (Nat.le_refl _) (.int .i64 (beginAt P.Y i))).setCell (p := ⟨w.heap.size, 4, none⟩) (Nat.le_refl _) (.int .i64 x.fs.length)).setCell (p := ⟨w.heap.size, 5, none⟩) (Nat.le_refl _) (.bool x.noted))
    generalize ((((((w1.setCell ⟨w.heap.size, 0, none⟩ (.int .i64 x.kind)).setCell ⟨w.heap.size, 1, none⟩ (.int .i64 x.tag)).setCell ⟨w.heap.size, 2, none⟩ (.int .i64 x.id)).setCell ⟨w.heap.size, 3, none⟩ (.int .i64 (beginAt P.Y i))).setCell ⟨w.heap.size, 4, none⟩ (.int .i64 x.fs.length)).setCell ⟨w.heap.size, 5, none⟩ (.bool x.noted)) = wz at *
    clear k0 f0 k1 f1 k2 f2 k3 f3 k4 f4 k5 f5
    refine bodyPost_ret (v := .agg #[.int .i64 x.kind, .int .i64 x.tag, .int .i64 x.id, .int .i64 (beginAt P.Y i), .int .i64 x.fs.length, .bool x.noted]) (results_cell_row Try.results19 _ _ w.heap.size 56 _ (0, 0) _ rfl hz Try.underlying56 rfl (by kernel_rfl)) rfl ?_
    exact ⟨_, unhide HF, by simp [objOf, unhide HX, objV, oCells], HBZ⟩
  | old i hi he =>
    obtain ⟨x, hx⟩ : ∃ x, P.O[i]? = some x := ⟨P.O[i], List.getElem?_eq_getElem hi⟩
    obtain ⟨g, cap, hvo, a0, a1, a2, a3, a4, a5⟩ := (((unhide K).keep (unhide HB)).old (unhide HFW)).obj hx
    subst hvo
    have c1 : w1.cell? ⟨h, 4, none⟩ = some (.slice (some ⟨g, 0, none⟩) P.O.length cap) := (((unhide K).keep (unhide HB)).old (unhide HFW)).c1
    have hi2 : (i : Int) < (P.O.length : Int) := by omega
    have HF := hide (show Found P a (some (false, i)) from .old i hi he)
    have HX := hide hx
    clear hi he hx
    simp only [foundV]
    go_wp2_with fail
    have hz := (hset (hset (hset (hset (hset (hset (unhide HK) 0 (.int .i64 x.kind)) 1 (.int .i64 x.tag)) 2 (.int .i64 x.id)) 3 (.int .i64 (beginAt P.O i))) 4 (.int .i64 x.fs.length)) 5 (.bool x.noted))
    have HBZ := (((((((unhide HB).setCell (p := ⟨w.heap.size, 0, none⟩) (Nat.le_refl _) (.int .i64 x.kind)).setCell (p := ⟨w.heap.size, 1, none⟩) (Nat.le_refl _) (.int .i64 x.tag)).setCell (p := ⟨w.heap.size, 2, none⟩) (Nat.le_refl _) (.int .i64 x.id)).setCell (p := ⟨w.heap.size, 3, none⟩) (Nat.le_refl _) (.int .i64 (beginAt P.O i))).setCell (p := ⟨w.heap.size, 4, none⟩) (Nat.le_refl _) (.int .i64 x.fs.length)).setCell (p := ⟨w.heap.size, 5, none⟩) (Nat.le_refl _) (.bool x.noted))
    generalize ((((((w1.setCell ⟨w.heap.size, 0, none⟩ (.int .i64 x.kind)).setCell ⟨w.heap.size, 1, none⟩ (.int .i64 x.tag)).setCell ⟨w.heap.size, 2, none⟩ (.int .i64 x.id)).setCell ⟨w.heap.size, 3, none⟩ (.int .i64 (beginAt P.O i))).setCell ⟨w.heap.size, 4, none⟩ (.int .i64 x.fs.length)).setCell ⟨w.heap.size, 5, none⟩ (.bool x.noted)) = wz at *
    clear k0 f0 k1 f1 k2 f2 k3 f3 k4 f4 k5 f5
    refine bodyPost_ret (v := .agg #[.int .i64 x.kind, .int .i64 x.tag, .int .i64 x.id, .int .i64 (beginAt P.O i), .int .i64 x.fs.length, .bool x.noted]) (results_cell_row Try.results19 _ _ w.heap.size 56 _ (0, 0) _ rfl hz Try.underlying56 rfl (by kernel_rfl)) rfl ?_
    exact ⟨_, unhide HF, by simp [objOf, unhide HX, objV, oCells], HBZ⟩
  | none hy ho =>
    have HF := hide (show Found P a none from .none hy ho)
    clear hy ho
    simp only [foundV]
    go_wp2_with fail
    have hz := (hset (hset (hset (hset (hset (hset (unhide HK) 0 (.int .i64 0)) 1 (.int .i64 0)) 2 (.int .i64 0)) 3 (.int .i64 0)) 4 (.int .i64 0)) 5 (.bool false))
    have HBZ := (((((((unhide HB).setCell (p := ⟨w.heap.size, 0, none⟩) (Nat.le_refl _) (.int .i64 0)).setCell (p := ⟨w.heap.size, 1, none⟩) (Nat.le_refl _) (.int .i64 0)).setCell (p := ⟨w.heap.size, 2, none⟩) (Nat.le_refl _) (.int .i64 0)).setCell (p := ⟨w.heap.size, 3, none⟩) (Nat.le_refl _) (.int .i64 0)).setCell (p := ⟨w.heap.size, 4, none⟩) (Nat.le_refl _) (.int .i64 0)).setCell (p := ⟨w.heap.size, 5, none⟩) (Nat.le_refl _) (.bool false))
    generalize ((((((w1.setCell ⟨w.heap.size, 0, none⟩ (.int .i64 0)).setCell ⟨w.heap.size, 1, none⟩ (.int .i64 0)).setCell ⟨w.heap.size, 2, none⟩ (.int .i64 0)).setCell ⟨w.heap.size, 3, none⟩ (.int .i64 0)).setCell ⟨w.heap.size, 4, none⟩ (.int .i64 0)).setCell ⟨w.heap.size, 5, none⟩ (.bool false)) = wz at *
    clear k0 f0 k1 f1 k2 f2 k3 f3 k4 f4 k5 f5
    refine bodyPost_ret (v := .agg #[.int .i64 0, .int .i64 0, .int .i64 0, .int .i64 0, .int .i64 0, .bool false]) (results_cell_row Try.results19 _ _ w.heap.size 56 _ (0, 0) _ rfl hz Try.underlying56 rfl (by kernel_rfl)) rfl ?_
    exact ⟨_, unhide HF, by simp [objOf, objV, oCells, zeroO], HBZ⟩

set_option maxRecDepth 100000 in
set_option maxHeartbeats 4000000 in
theorem kind_any {B : Nat} {w : World} {h mb : Nat} {P : PHp} {vyo vyf voo vof vn : Value} (k : HpAt B w h mb P vyo vyf voo vof vn) (hs : Small P) (hfw : Few P) {a : Int} (ha : I64 a) :
    Calls Try.prog 20 #[.pointer (some ⟨h, 0, none⟩), .int .i64 a] w fun e w' => ∃ r, Found P a r ∧ e = .returned (.int .i64 (match objOf P r with | some (_, x) => x.kind | none => 0)) ∧ Below w.heap.size w w' := by
  have hf : ∀ (x0 x1 x2 x3 x4 : Int) (x5 : Bool) (w : World), (Go.Instr.field 56 (.agg #[.int .i64 x0, .int .i64 x1, .int .i64 x2, .int .i64 x3, .int .i64 x4, .bool x5]) 0).run Try.prog w = .ok (.int .i64 x0) w := fun _ _ _ _ _ _ w => by kernel_rfl
  go_enter Try.func20, Try.ntmps20
  go_wp2_with fail
  refine (object_any k hs hfw ha).mono ?_
  rintro e w1 ⟨r, hr, rfl, hb1⟩
  have HB := hide hb1
  have HR := hide hr
  clear hb1 hr
  cases hx : objOf P r with
  | none =>
    simp only [objV, oCells, zeroO]
    go_wp2_with fail
    go_ret
    exact ⟨r, unhide HR, by rw [hx]; rfl, unhide HB⟩
  | some bx =>
    obtain ⟨b, x⟩ := bx
    simp only [objV, oCells]
    go_wp2_with fail
    go_ret
    exact ⟨r, unhide HR, by rw [hx]; rfl, unhide HB⟩

set_option maxRecDepth 100000 in
set_option maxHeartbeats 4000000 in
theorem tag_any {B : Nat} {w : World} {h mb : Nat} {P : PHp} {vyo vyf voo vof vn : Value} (k : HpAt B w h mb P vyo vyf voo vof vn) (hs : Small P) (hfw : Few P) {a : Int} (ha : I64 a) :
    Calls Try.prog 24 #[.pointer (some ⟨h, 0, none⟩), .int .i64 a] w fun e w' => ∃ r, Found P a r ∧ e = .returned (.int .i64 (match objOf P r with | some (_, x) => x.tag | none => 0)) ∧ Below w.heap.size w w' := by
  have hf : ∀ (x0 x1 x2 x3 x4 : Int) (x5 : Bool) (w : World), (Go.Instr.field 56 (.agg #[.int .i64 x0, .int .i64 x1, .int .i64 x2, .int .i64 x3, .int .i64 x4, .bool x5]) 1).run Try.prog w = .ok (.int .i64 x1) w := fun _ _ _ _ _ _ w => by kernel_rfl
  go_enter Try.func24, Try.ntmps24
  go_wp2_with fail
  refine (object_any k hs hfw ha).mono ?_
  rintro e w1 ⟨r, hr, rfl, hb1⟩
  have HB := hide hb1
  have HR := hide hr
  clear hb1 hr
  cases hx : objOf P r with
  | none =>
    simp only [objV, oCells, zeroO]
    go_wp2_with fail
    go_ret
    exact ⟨r, unhide HR, by rw [hx]; rfl, unhide HB⟩
  | some bx =>
    obtain ⟨b, x⟩ := bx
    simp only [objV, oCells]
    go_wp2_with fail
    go_ret
    exact ⟨r, unhide HR, by rw [hx]; rfl, unhide HB⟩

set_option maxRecDepth 100000 in
set_option maxHeartbeats 4000000 in
theorem id_any {B : Nat} {w : World} {h mb : Nat} {P : PHp} {vyo vyf voo vof vn : Value} (k : HpAt B w h mb P vyo vyf voo vof vn) (hs : Small P) (hfw : Few P) {a : Int} (ha : I64 a) :
    Calls Try.prog 16 #[.pointer (some ⟨h, 0, none⟩), .int .i64 a] w fun e w' => ∃ r, Found P a r ∧ e = .returned (.int .i64 (match objOf P r with | some (_, x) => x.id | none => 0)) ∧ Below w.heap.size w w' := by
  have hf : ∀ (x0 x1 x2 x3 x4 : Int) (x5 : Bool) (w : World), (Go.Instr.field 56 (.agg #[.int .i64 x0, .int .i64 x1, .int .i64 x2, .int .i64 x3, .int .i64 x4, .bool x5]) 2).run Try.prog w = .ok (.int .i64 x2) w := fun _ _ _ _ _ _ w => by kernel_rfl
  go_enter Try.func16, Try.ntmps16
  go_wp2_with fail
  refine (object_any k hs hfw ha).mono ?_
  rintro e w1 ⟨r, hr, rfl, hb1⟩
  have HB := hide hb1
  have HR := hide hr
  clear hb1 hr
  cases hx : objOf P r with
  | none =>
    simp only [objV, oCells, zeroO]
    go_wp2_with fail
    go_ret
    exact ⟨r, unhide HR, by rw [hx]; rfl, unhide HB⟩
  | some bx =>
    obtain ⟨b, x⟩ := bx
    simp only [objV, oCells]
    go_wp2_with fail
    go_ret
    exact ⟨r, unhide HR, by rw [hx]; rfl, unhide HB⟩
end Go.Proofs.Ytddfdefgdlfpmaa
