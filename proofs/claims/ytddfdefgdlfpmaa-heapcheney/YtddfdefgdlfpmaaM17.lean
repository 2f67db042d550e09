/-
  A new heap, whole.
  Heap.Size.
  pick.
  sameInts of two that have the same.
  What a value leads to, as plain data: written out, each object once.
  Identities that were seen: a map in memory.
-/
import Derived.Test.YtddfdefgdlfpmaaM16
import Derived.Lib.SmallJoins
namespace Go.Proofs.Ytddfdefgdlfpmaa
open Go.RowKit Go.Maps

/-- A heap with nothing in it. -/
def newP (n o : Int) : PHp := { fy := 1, fo := 2, ry := n, ro := o, Y := [], O := [], noted := [], last := 0, minors := 0, majors := 0 }
theorem HpG.new {w : World} {hp mb : Nat} {n o : Int} (hb : w.heap[hp]? = some (.cells (hpCells (newP n o) (.slice none 0 0) (.slice none 0 0) (.slice none 0 0) (.slice none 0 0) (.slice none 0 0) mb) 51 (0, 0))) (hm : w.heap[mb]? = some (.map #[] 0)) {B : Nat} (hB : B ≤ w.heap.size) :
    HpG B w hp mb (newP n o) (.map []) 0 (.slice none 0 0) (.slice none 0 0) (.slice none 0 0) (.slice none 0 0) (.slice none 0 0) :=
  ⟨⟨hb, World.ownsRow_nil _ _ _ _, World.ownsRow_nil _ _ _ _, World.ownsRow_nil _ _ _ _, World.ownsRow_nil _ _ _ _, World.ownsRow_nil _ _ _ _⟩, Go.Joins.ownsMap_empty hm, fun j hj => (by cases hj), fun j hj => (by cases hj), ⟨by simp [newP], by simp [newP], by simp [newP], by simp [newP], by simp [newP], by simp [newP]⟩, ⟨by simp [newP, allF], by simp [newP, allF]⟩, by simp [newP], by simp [newP], by simp [newP, allF], by simp [newP], fun x hx => (by cases hx), hB⟩
end Go.Proofs.Ytddfdefgdlfpmaa

namespace Go.Proofs.Ytddfdefgdlfpmaa
open Go.RowKit

set_option maxRecDepth 100000 in
set_option maxHeartbeats 4000000 in
theorem size_any {B : Nat} {w : World} {h mb : Nat} {P : PHp} {vyo vyf voo vof vn : Value} (k : HpAt B w h mb P vyo vyf voo vof vn) (hs : Small P) (hfw : Few P) {a : Int} (ha : I64 a) :
    Calls Try.prog 8 #[.pointer (some ⟨h, 0, none⟩), .int .i64 a] w fun e w' => ∃ r, Found P a r ∧ e = .returned (.int .i64 (match objOf P r with | some (_, x) => x.fs.length | none => 0)) ∧ Below w.heap.size w w' := by
  have hf : ∀ (x0 x1 x2 x3 x4 : Int) (x5 : Bool) (w : World), (Go.Instr.field 56 (.agg #[.int .i64 x0, .int .i64 x1, .int .i64 x2, .int .i64 x3, .int .i64 x4, .bool x5]) 4).run Try.prog w = .ok (.int .i64 x4) w := fun _ _ _ _ _ _ w => by kernel_rfl
  go_enter Try.func8, Try.ntmps8
  go_wp2_with fail
  refine (object_any k hs hfw ha).mono ?_
  rintro e w1 ⟨r, hr, rfl, hb1⟩
  have HB := hide hb1
  have HR := hide hr
  clear hb1 hr
  cases hx : objOf P r with
  | none =>
    simp only [objV, oCells, zeroO]
    go_wp2_with fail
    go_ret
    exact ⟨r, unhide HR, by rw [hx]; rfl, unhide HB⟩
  | some bx =>
    obtain ⟨b, x⟩ := bx
    simp only [objV, oCells]
    go_wp2_with fail
    go_ret
    exact ⟨r, unhide HR, by rw [hx]; rfl, unhide HB⟩
end Go.Proofs.Ytddfdefgdlfpmaa

namespace Go.Proofs.Ytddfdefgdlfpmaa
open Go.RowKit

set_option maxRecDepth 100000 in
set_option maxHeartbeats 4000000 in
theorem pick_any {w : World} {a : Int} {n : Nat} (h0 : 0 < n) (h1 : n ≤ 1000000) :
    Calls Try.prog 7 #[.int .i64 a, .int .i64 n] w fun e w' => e = .returned (.int .i64 ((a % 18446744073709551616) % n)) ∧ w' = w := by
  go_enter Try.func7, Try.ntmps7
  go_wp2_with fail
  have e1 : IntKind.u64.wrap a = a % 18446744073709551616 := by kernel_rfl
  have g0 : 0 ≤ a % 18446744073709551616 := Int.emod_nonneg _ (by decide)
  have e2 : (a % 18446744073709551616).tmod (n : Int) = a % 18446744073709551616 % n := Int.tmod_eq_emod_of_nonneg g0
  have r0 : 0 ≤ a % 18446744073709551616 % (n : Int) := Int.emod_nonneg _ (by omega)
  have r1 : a % 18446744073709551616 % (n : Int) < n := Int.emod_lt_of_pos _ (by omega)
  have e3 : wrap64 (a % 18446744073709551616 % (n : Int)) = a % 18446744073709551616 % n := by unfold wrap64; omega
  rw [e1, e2, e3]
  go_ret
  exact ⟨rfl, rfl⟩
end Go.Proofs.Ytddfdefgdlfpmaa

namespace Go.Proofs.Ytddfdefgdlfpmaa
open Go.RowKit

/-- Numbers in memory. -/
def NumsAt (w : World) (v : Value) (l : List Int) : Prop := ∃ g cap, v = .slice g l.length cap ∧ ∀ (k : Nat) (x : Int), l[k]? = some x → ∃ b o, g = some ⟨b, o, none⟩ ∧ w.cell? ⟨b, o + k, none⟩ = some (.int .i64 x)

set_option maxRecDepth 100000 in
set_option maxHeartbeats 4000000 in
theorem same_any {w : World} {va vb : Value} {l : List Int} (ha : NumsAt w va l) (hb : NumsAt w vb l) (hl : l.length ≤ 1000000000) :
    Calls Try.prog 13 #[va, vb] w fun e w' => e = .returned (.bool true) ∧ Below w.heap.size w w' := by
  obtain ⟨g, c, rfl, ha⟩ := ha
  obtain ⟨g', c', rfl, hb⟩ := hb
  have HA := hide ha
  have HB := hide hb
  clear ha hb
  go_enter Try.func13, Try.ntmps13
  go_wp2_with fail
  go_loopg [5] l.length (fun gg iv wr => ∃ (i : Nat), gg = l.length - i ∧ iv = .int .i64 i ∧ i ≤ l.length ∧ Hid (Below w.heap.size w wr))
  case atStart => exact ⟨0, rfl, rfl, Nat.zero_le _, Below.refl _ _⟩
  case round =>
    obtain ⟨i, rfl, rfl, hil, HW⟩ := hrel
    by_cases hlt : i < l.length
    · have hlt2 : (i : Int) < (l.length : Int) := by omega
      obtain ⟨b, o, rfl, c1⟩ := unhide HA i l[i] (List.getElem?_eq_getElem hlt)
      obtain ⟨b', o', rfl, c2⟩ := unhide HB i l[i] (List.getElem?_eq_getElem hlt)
      have c1 := cellk (unhide HW) c1 (cell_lt (a := ⟨b, o + i, none⟩) c1)
      have c2 := cellk (unhide HW) c2 (cell_lt (a := ⟨b', o' + i, none⟩) c2)
      generalize l[i] = x at *
      go_wp2_with fail
      refine wp_region_held_drew (S := fun w' => w'.cell? ⟨b, o + i, none⟩ = some (.int .i64 x) ∧ w'.cell? ⟨b', o' + i, none⟩ = some (.int .i64 x)) (by kernel_rfl) ⟨c1, c2⟩ (fun hHeld => ?_)
      refine wpAnyH_take (i := 0) (oi := { dst := some 17, op := _, type := _, pos := _, after := _, guard := _ }) (v := ?_) rfl (by kernel_rfl) (by kernel_rfl) (by kernel_rfl) (fun _ _ _ h => h) (Or.inl ⟨by rfl, ?_⟩) (by assumption) ?_
      case refine_2 =>
        intro w hSw
        try dsimp only at hSw
        go_simp
        try with_reducible rfl
      simp only [Act.put, List.setIfInBounds_toArray, List.set_cons_zero, List.set_cons_succ]
      refine wpAnyH_take (i := 1) (oi := { dst := some 18, op := _, type := _, pos := _, after := _, guard := _ }) (v := ?_) rfl (by kernel_rfl) (by kernel_rfl) (by kernel_rfl) (fun _ _ _ h => h) (Or.inl ⟨by rfl, ?_⟩) (by assumption) ?_
      case refine_2 =>
        intro w hSw
        try dsimp only at hSw
        go_simp
        try with_reducible rfl
      simp only [Act.put, List.setIfInBounds_toArray, List.set_cons_zero, List.set_cons_succ]
      refine wpAnyH_take (i := 2) (oi := { dst := some 19, op := _, type := _, pos := _, after := _, guard := _ }) (v := ?_) rfl (by kernel_rfl) (by kernel_rfl) (by kernel_rfl) (fun _ _ _ h => h) (Or.inl ⟨by rfl, ?_⟩) (by assumption) ?_
      case refine_2 =>
        intro w hSw
        try dsimp only at hSw
        go_simp
        try with_reducible rfl
      simp only [Act.put, List.setIfInBounds_toArray, List.set_cons_zero, List.set_cons_succ]
      refine wpAnyH_take (i := 3) (oi := { dst := some 20, op := _, type := _, pos := _, after := _, guard := _ }) (v := ?_) rfl (by kernel_rfl) (by kernel_rfl) (by kernel_rfl) (fun _ _ _ h => h) (Or.inl ⟨by rfl, ?_⟩) (by assumption) ?_
      case refine_2 =>
        intro w hSw
        try dsimp only at hSw
        go_simp
        try with_reducible rfl
      simp only [Act.put, List.setIfInBounds_toArray, List.set_cons_zero, List.set_cons_succ]
      refine wpAnyH_take (i := 4) (oi := { dst := some 21, op := _, type := _, pos := _, after := _, guard := _ }) (v := ?_) rfl (by kernel_rfl) (by kernel_rfl) (by kernel_rfl) (fun _ _ _ h => h) (Or.inl ⟨by rfl, ?_⟩) (by assumption) ?_
      case refine_2 =>
        intro w hSw
        try dsimp only at hSw
        go_simp
        try with_reducible rfl
      simp only [Act.put, List.setIfInBounds_toArray, List.set_cons_zero, List.set_cons_succ]
      refine wpAnyH_take (i := 5) (oi := { dst := some 22, op := _, type := _, pos := _, after := _, guard := _ }) (v := ?_) rfl (by kernel_rfl) (by kernel_rfl) (by kernel_rfl) (fun _ _ _ h => h) (Or.inl ⟨by rfl, ?_⟩) (by assumption) ?_
      case refine_2 =>
        intro w hSw
        try dsimp only at hSw
        go_simp
        try with_reducible rfl
      simp only [Act.put, List.setIfInBounds_toArray, List.set_cons_zero, List.set_cons_succ]
      refine wpAnyH_take (i := 6) (oi := { dst := some 23, op := _, type := _, pos := _, after := _, guard := _ }) (v := ?_) rfl (by kernel_rfl) (by kernel_rfl) (by kernel_rfl) (fun _ _ _ h => h) (Or.inl ⟨by rfl, ?_⟩) (by assumption) ?_
      case refine_2 =>
        intro w hSw
        try dsimp only at hSw
        go_simp
        try with_reducible rfl
      simp only [Act.put, List.setIfInBounds_toArray, List.set_cons_zero, List.set_cons_succ]
      refine wpAnyH_take (i := 7) (oi := { dst := some 24, op := _, type := _, pos := _, after := _, guard := _ }) (v := ?_) rfl (by kernel_rfl) (by kernel_rfl) (by kernel_rfl) (fun _ _ _ h => h) (Or.inl ⟨by rfl, ?_⟩) (by assumption) ?_
      case refine_2 =>
        intro w hSw
        try dsimp only at hSw
        go_simp
        try with_reducible rfl
      simp only [Act.put, List.setIfInBounds_toArray, List.set_cons_zero, List.set_cons_succ]
      refine wpAnyH_take (i := 8) (oi := { dst := some 25, op := _, type := _, pos := _, after := _, guard := _ }) (v := ?_) rfl (by kernel_rfl) (by kernel_rfl) (by kernel_rfl) (fun _ _ _ h => h) (Or.inl ⟨by rfl, ?_⟩) (by assumption) ?_
      case refine_2 =>
        intro w hSw
        try dsimp only at hSw
        go_simp
        try with_reducible rfl
      simp only [Act.put, List.setIfInBounds_toArray, List.set_cons_zero, List.set_cons_succ]
      refine wpAnyH_done (by kernel_rfl) ?_ _
      go_wp2_with fail
      go_roundg (l.length - (i + 1))
      case measure => omega
      case rel => exact ⟨i + 1, rfl, by go_num, by omega, Below.drew (unhide HW)⟩
    · obtain rfl : i = l.length := by omega
      have hlt2 : decide ((l.length : Int) < (l.length : Int)) = false := by simp
      go_wp2_with fail
      go_ret
      exact ⟨rfl, unhide HW⟩
end Go.Proofs.Ytddfdefgdlfpmaa

namespace Go.Proofs.Ytddfdefgdlfpmaa
open Go.RowKit Go.Maps

/-- The object at an address. -/
def objA (P : PHp) (a : Int) : Option HO :=
  match numIn P.fy P.Y.length a with
  | some i => P.Y[i]?
  | none => match numIn P.fo P.O.length a with
    | some i => P.O[i]?
    | none => none
theorem objA_mem {P : PHp} {a : Int} {x : HO} (h : objA P a = some x) : x ∈ P.Y ++ P.O := by
  unfold objA at h
  split at h
  · exact List.mem_append_left _ (List.mem_of_getElem? h)
  · split at h
    · exact List.mem_append_right _ (List.mem_of_getElem? h)
    · cases h
theorem numIn_no {f : Int} {n : Nat} {a : Int} (h : ∀ i : Nat, i < n → a ≠ f + 2 * i) : numIn f n a = none := by
  cases q : numIn f n a with
  | none => rfl
  | some i => exact absurd (numIn_some.1 q).2 (h i (numIn_some.1 q).1)
theorem found_objA {P : PHp} {a : Int} {r : Option (Bool × Nat)} (hs : Small P) (h : Found P a r) : (objOf P r).map Prod.snd = objA P a := by
  have h1 := hs.yo
  have h2 := hs.oe
  cases r, h using Found.parts with
  | young i hi e =>
    unfold objA
    rw [numIn_some.2 ⟨hi, e⟩]
    simp [objOf, List.getElem?_eq_getElem hi]
  | old i hi e =>
    unfold objA
    rw [numIn_no (fun k hk => by omega), numIn_some.2 ⟨hi, e⟩]
    simp [objOf, List.getElem?_eq_getElem hi]
  | none hy ho =>
    unfold objA
    rw [numIn_no hy, numIn_no ho]
    rfl
/-- Values one behind the other. -/
def walkL (g : HV → List Int → Option (List Int × List Int)) : List HV → List Int → Option (List Int × List Int)
  | [], seen => some ([], seen)
  | v :: r, seen => match g v seen with
    | none => none
    | some a => match walkL g r a.2 with
      | none => none
      | some b => some (a.1 ++ b.1, b.2)
/-- What a value leads to, and which identities were seen. -/
def shp (P : PHp) : Nat → HV → List Int → Option (List Int × List Int)
  | 0, _, _ => none
  | f + 1, v, seen =>
    if v.kind ≠ 4 then some ([v.kind, v.n, v.s.size], seen) else
    match objA P v.n with
    | none => none
    | some x => if x.id ∈ seen then some ([-x.id], seen) else
      match walkL (shp P f) x.fs (x.id :: seen) with
      | none => none
      | some r => some ([x.id, x.kind, x.tag, (x.fs.length : Int)] ++ r.1, r.2)
/-- What takes values to values, object by object. -/
structure Sim (P P' : PHp) (ph : HV → HV) (G : HV → Prop) : Prop where
  kind : ∀ v, (ph v).kind = v.kind ∧ (v.kind ≠ 4 → ph v = v)
  obj : ∀ v x, G v → v.kind = 4 → objA P v.n = some x → ∃ x', objA P' (ph v).n = some x' ∧ x'.id = x.id ∧ x'.kind = x.kind ∧ x'.tag = x.tag ∧ x'.fs = x.fs.map ph ∧ ∀ u ∈ x.fs, G u
theorem walk_sim {g g' : HV → List Int → Option (List Int × List Int)} {ph : HV → HV} {G : HV → Prop} (h : ∀ v seen r, G v → g v seen = some r → g' (ph v) seen = some r) : ∀ (l : List HV) (seen : List Int) (r : List Int × List Int), (∀ u ∈ l, G u) → walkL g l seen = some r → walkL g' (l.map ph) seen = some r
  | [], seen, r, _, e => e
  | v :: l, seen, r, hG, e => by
    rw [walkL] at e
    rw [List.map_cons, walkL]
    cases h1 : g v seen with
    | none => rw [h1] at e; cases e
    | some a =>
      rw [h1] at e
      rw [h v seen a (hG v (List.mem_cons_self ..)) h1]
      simp only at e ⊢
      cases h2 : walkL g l a.2 with
      | none => rw [h2] at e; cases e
      | some b =>
        rw [h2] at e
        rw [walk_sim h l a.2 b (fun u hu => hG u (List.mem_cons_of_mem _ hu)) h2]
        exact e
theorem Sim.shape {P P' : PHp} {ph : HV → HV} {G : HV → Prop} (h : Sim P P' ph G) : ∀ (f : Nat) (v : HV) (seen : List Int) (r : List Int × List Int), G v → shp P f v seen = some r → shp P' f (ph v) seen = some r
  | 0, _, _, _, _, e => by cases e
  | f + 1, v, seen, r, hG, e => by
    rw [shp] at e
    rw [shp, (h.kind v).1]
    by_cases hk : v.kind ≠ 4
    · rw [if_pos hk] at e
      rw [if_pos hk, (h.kind v).2 hk]
      exact e
    · rw [if_neg hk] at e
      rw [if_neg hk]
      cases hx : objA P v.n with
      | none => rw [hx] at e; cases e
      | some x =>
        rw [hx] at e
        obtain ⟨x', q1, q2, q3, q4, q5, q6⟩ := h.obj v x hG (by simpa using hk) hx
        rw [q1]
        simp only at e ⊢
        rw [q2, q3, q4]
        by_cases hs : x.id ∈ seen
        · rw [if_pos hs] at e ⊢
          exact e
        · rw [if_neg hs] at e ⊢
          cases hw : walkL (shp P f) x.fs (x.id :: seen) with
          | none => rw [hw] at e; cases e
          | some b =>
            rw [hw] at e
            rw [q5, walk_sim (fun v s r => Sim.shape h f v s r) x.fs _ b q6 hw, List.length_map]
            exact e

/-- How much there is yet that was not seen. -/
def left (l : List HO) (seen : List Int) : Nat := (l.map fun x => if x.id ∈ seen then 0 else 4 + 3 * x.fs.length).sum
theorem left_mono : ∀ (l : List HO) {s s' : List Int}, (∀ a ∈ s, a ∈ s') → left l s' ≤ left l s
  | [], _, _, _ => Nat.le_refl _
  | x :: r, s, s', h => by
    have := left_mono r h
    unfold left at *
    simp only [List.map_cons, List.sum_cons]
    by_cases q : x.id ∈ s
    · rw [if_pos q, if_pos (h _ q)]
      omega
    · rw [if_neg q]
      split <;> omega
theorem left_new : ∀ (l : List HO) {s : List Int} {x : HO}, x ∈ l → x.id ∉ s → left l (x.id :: s) + (4 + 3 * x.fs.length) ≤ left l s
  | y :: r, s, x, hx, hn => by
    rcases List.mem_cons.1 hx with rfl | hx
    · have h1 := left_mono r (s := s) (s' := x.id :: s) (fun a ha => List.mem_cons_of_mem _ ha)
      unfold left at *
      simp only [List.map_cons, List.sum_cons]
      rw [if_pos (List.mem_cons_self ..), if_neg hn]
      omega
    · have h1 := left_new r hx hn
      unfold left at *
      simp only [List.map_cons, List.sum_cons]
      by_cases q : y.id ∈ s
      · rw [if_pos q, if_pos (List.mem_cons_of_mem _ q)]
        omega
      · rw [if_neg q]
        split <;> omega
/-- It leads to an object, if it leads anywhere. -/
def Leads (P : PHp) (v : HV) : Prop := v.kind = 4 → ∃ x, objA P v.n = some x
def ShapeOk (P : PHp) (seen : List Int) (r : List Int × List Int) : Prop :=
  (∀ a ∈ seen, a ∈ r.2) ∧ (seen.Nodup → r.2.Nodup) ∧ (∀ a ∈ r.2, a ∈ seen ∨ ∃ x ∈ P.Y ++ P.O, x.id = a) ∧
  (∀ b x, objA P b = some x → x.id ∈ r.2 → x.id ∉ seen → ∀ u ∈ x.fs, u.kind = 4 → ∀ y, objA P u.n = some y → y.id ∈ r.2)
/-- No identity twice. -/
def Uniq (P : PHp) : Prop := ∀ a b x y, objA P a = some x → objA P b = some y → x.id = y.id → x = y
def Tied (P : PHp) : Prop := ∀ x ∈ P.Y ++ P.O, ∀ u ∈ x.fs, Leads P u
theorem walk_ok {P : PHp} {g : HV → List Int → Option (List Int × List Int)} {N : Nat}
    (h : ∀ v seen, Leads P v → left (P.Y ++ P.O) seen < N → ∃ r, g v seen = some r ∧ ShapeOk P seen r ∧ (v.kind = 4 → ∀ y, objA P v.n = some y → y.id ∈ r.2) ∧ r.1.length + left (P.Y ++ P.O) r.2 ≤ left (P.Y ++ P.O) seen + 3) :
    ∀ (l : List HV) (seen : List Int), (∀ u ∈ l, Leads P u) → left (P.Y ++ P.O) seen < N → ∃ r, walkL g l seen = some r ∧ ShapeOk P seen r ∧ (∀ v ∈ l, v.kind = 4 → ∀ y, objA P v.n = some y → y.id ∈ r.2) ∧ r.1.length + left (P.Y ++ P.O) r.2 ≤ left (P.Y ++ P.O) seen + 3 * l.length
  | [], seen, _, _ => ⟨_, rfl, ⟨fun _ h => h, fun h => h, fun _ h => Or.inl h, fun b x _ h1 h2 => absurd h1 h2⟩, fun v hv => (by cases hv), by simp⟩
  | v :: l, seen, hl, hN => by
    obtain ⟨a, e1, ⟨a1, a2, a3, a4⟩, a5, a6⟩ := h v seen (hl v (List.mem_cons_self ..)) hN
    have hm := left_mono (P.Y ++ P.O) a1
    obtain ⟨b, e2, ⟨b1, b2, b3, b4⟩, b5, b6⟩ := walk_ok h l a.2 (fun u hu => hl u (List.mem_cons_of_mem _ hu)) (by omega)
    refine ⟨(a.1 ++ b.1, b.2), by rw [walkL, e1]; simp only [e2], ⟨fun c hc => b1 c (a1 c hc), fun hc => b2 (a2 hc), fun c hc => ?_, fun c x hx h1 h2 u hu hk y hy => ?_⟩, fun u hu hk y hy => ?_, ?_⟩
    · rcases b3 c hc with q | q
      · exact a3 c q
      · exact Or.inr q
    · by_cases q : x.id ∈ a.2
      · exact b1 _ (a4 c x hx q h2 u hu hk y hy)
      · exact b4 c x hx h1 q u hu hk y hy
    · rcases List.mem_cons.1 hu with rfl | hu
      · exact b1 _ (a5 hk y hy)
      · exact b5 u hu hk y hy
    · simp only [List.length_append, List.length_cons]
      omega
theorem shape_ok {P : PHp} (hu : Uniq P) (ht : Tied P) : ∀ (f : Nat) (v : HV) (seen : List Int), Leads P v → left (P.Y ++ P.O) seen < f → ∃ r, shp P f v seen = some r ∧ ShapeOk P seen r ∧ (v.kind = 4 → ∀ y, objA P v.n = some y → y.id ∈ r.2) ∧ r.1.length + left (P.Y ++ P.O) r.2 ≤ left (P.Y ++ P.O) seen + 3
  | 0, _, _, _, h => by omega
  | f + 1, v, seen, hv, hN => by
    have same : ∀ o : List Int, ShapeOk P seen (o, seen) := fun o => ⟨fun _ h => h, fun h => h, fun _ h => Or.inl h, fun b x _ h1 h2 => absurd h1 h2⟩
    by_cases hk : v.kind ≠ 4
    · exact ⟨([v.kind, v.n, (v.s.size : Int)], seen), by rw [shp, if_pos hk], same _, fun q => absurd q hk, by simp only [List.length_cons, List.length_nil]; omega⟩
    · obtain ⟨x, hx⟩ := hv (by simpa using hk)
      by_cases hs : x.id ∈ seen
      · exact ⟨([-x.id], seen), by rw [shp, if_neg hk, hx]; simp only [if_pos hs], same _, fun _ y hy => by rw [hx] at hy; cases hy; exact hs, by simp only [List.length_cons, List.length_nil]; omega⟩
      · have hm := objA_mem hx
        have hl := left_new (P.Y ++ P.O) hm hs
        obtain ⟨b, e2, ⟨b1, b2, b3, b4⟩, b5, b6⟩ := walk_ok (shape_ok hu ht f) x.fs (x.id :: seen) (ht x hm) (by omega)
        refine ⟨([x.id, x.kind, x.tag, (x.fs.length : Int)] ++ b.1, b.2), by rw [shp, if_neg hk, hx]; simp only [if_neg hs, e2], ⟨fun c hc => b1 c (List.mem_cons_of_mem _ hc), fun hc => b2 (List.nodup_cons.2 ⟨hs, hc⟩), fun c hc => ?_, fun c z hz h1 h2 u hu' hku y hy => ?_⟩, fun _ y hy => by rw [hx] at hy; cases hy; exact b1 _ (List.mem_cons_self ..), by simp only [List.length_append, List.length_cons, List.length_nil]; omega⟩
        · rcases b3 c hc with q | q
          · rcases List.mem_cons.1 q with rfl | q
            · exact Or.inr ⟨x, hm, rfl⟩
            · exact Or.inl q
          · exact Or.inr q
        · by_cases q : z.id = x.id
          · have : z = x := hu _ _ _ _ hz hx q
            subst this
            exact b5 u hu' hku y hy
          · exact b4 c z hz h1 (fun h => by rcases List.mem_cons.1 h with h | h; exact q h; exact h2 h) u hu' hku y hy
end Go.Proofs.Ytddfdefgdlfpmaa

namespace Go.Proofs.Ytddfdefgdlfpmaa
open Go.RowKit Go.Maps

theorem zeroBool (w : World) : (zeroValue 4).run Try.prog w = .ok (.bool false) w := by kernel_rfl
def il (x : Int) : Lit := .int .i64 x
theorem il_lit (x : Int) : WideAt.IsKeyLit (il x) := by simp [il, WideAt.IsKeyLit]
theorem il_ne {x y : Int} (h : x ≠ y) : il x ≠ il y := fun e => h (by unfold il at e; injection e)
/-- The identities that were seen. -/
def SeenAt (w : World) (b : Nat) (seen : List Int) : Prop :=
  ∃ D : DataW Unit, w.ownsMap Try.prog 3 (plainElem Try.prog 4) b seen.length D ∧ Maps.size D = seen.length ∧ ∀ x : Int, Maps.has D (il x) = decide (x ∈ seen) ∧ D.atKey (il x) (.lit (.bool false)) = .lit (.bool (decide (x ∈ seen)))
theorem SeenAt.keep {w w' : World} {b : Nat} {seen : List Int} (h : SeenAt w b seen) (hb : w'.heap[b]? = w.heap[b]?) : SeenAt w' b seen := by
  obtain ⟨D, ⟨es, clock, h1, h2⟩, h3⟩ := h
  exact ⟨D, ⟨es, clock, hb.trans h1, h2⟩, h3⟩
theorem SeenAt.lt {w : World} {b : Nat} {seen : List Int} (h : SeenAt w b seen) : b < w.heap.size := by
  obtain ⟨D, h1, _⟩ := h
  exact h1.lt
theorem SeenAt.blk {w : World} {b : Nat} {seen : List Int} (h : SeenAt w b seen) : ∃ es cl, w.heap[b]? = some (.map es cl) := by
  obtain ⟨D, ⟨es, clock, h1, h2⟩, h3⟩ := h
  exact ⟨es, clock, h1⟩
set_option maxRecDepth 100000 in
theorem bool_of_elem {v : Value} {c : Bool} {ps : List MemPlace} (h : plainElem (H := Unit) Try.prog 4 v = some (.lit (.bool c), ps)) : v = .bool c := by
  unfold plainElem at h
  rw [Try.underlying4] at h
  cases v <;> simp at h
  rw [h.1]
theorem SeenAt.look {w : World} {b : Nat} {seen : List Int} (h : SeenAt w b seen) {x : Int} (hx : I64 x) :
    (Go.Instr.lookup 37 (.map (some b)) (.int .i64 x) false).run Try.prog w = .ok (.bool (decide (x ∈ seen))) w := by
  obtain ⟨D, h1, _, h2⟩ := h
  obtain ⟨v, ps, hrun, hv⟩ := h1.lookup keyIntS Try.underlying37 (zeroBool w) (plainElem_bool Try.underlying4 false) (keyOf_int_mk Try.underlying3 (wf_of hx))
  rw [show D.atKey (.int .i64 x) (.lit (.bool false)) = .lit (.bool (decide (x ∈ seen))) from (h2 x).2] at hv
  rw [hrun, bool_of_elem hv]
theorem SeenAt.put {w : World} {b : Nat} {seen : List Int} (h : SeenAt w b seen) {x : Int} (hx : I64 x) (hn : x ∉ seen) (hl : seen.length ≤ 1000000) :
    ∃ w', (Go.Instr.mapUpdate 37 (.map (some b)) (.int .i64 x) (.bool true)).run Try.prog w = .ok () w' ∧ SeenAt w' b (x :: seen) ∧ w.grownBy w' (some b) := by
  obtain ⟨D, h1, h2, h3⟩ := h
  have hm : Maps.IsMap D := h1.isMap
  have ht : Maps.Tidy D := h1.tidy keyIntS
  obtain ⟨w', hrun, hown, hg⟩ := h1.update keyIntS Try.underlying37 (by unfold maxLen; omega) (keyOf_int_mk Try.underlying3 (wf_of hx)) (plainElem_bool Try.underlying4 true)
  refine ⟨w', hrun, ⟨_, hown, ?_, fun y => ?_⟩, hg⟩
  · rw [Maps.size_put ht, show Maps.has D (.int .i64 x) = decide (x ∈ seen) from (h3 x).1, decide_eq_false hn, h2]
    simp
  · by_cases e : y = x
    · subst e
      rw [decide_eq_true (List.mem_cons_self ..)]
      exact ⟨Maps.has_put_same hm (il_lit y) _, Maps.atKey_put_same hm (il_lit y) _ _⟩
    · have q : decide (y ∈ x :: seen) = decide (y ∈ seen) := by simp [e]
      rw [q]
      have hne : il y ≠ .int .i64 x := il_ne e
      rw [Maps.has_put_other hne, Maps.atKey_put_other hne]
      exact h3 y
theorem SeenAt.made (w : World) : SeenAt (w.alloc (.map #[] 0)) w.heap.size [] :=
  ⟨_, World.ownsMap_made w _ _ _, rfl, fun _ => ⟨rfl, rfl⟩⟩
end Go.Proofs.Ytddfdefgdlfpmaa
