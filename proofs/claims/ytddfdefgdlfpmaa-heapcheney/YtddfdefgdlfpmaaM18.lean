/-
  rewindkeep.shape: what a value leads to, written out.
  What collections keep, as plain data: what a root leads to, and no more.
-/
import Derived.Test.YtddfdefgdlfpmaaM17
namespace Go.Proofs.Ytddfdefgdlfpmaa
open Go.RowKit Go.Maps

theorem id_at {B : Nat} {w : World} {h mb : Nat} {P : PHp} {vyo vyf voo vof vn : Value} (k : HpAt B w h mb P vyo vyf voo vof vn) (hs : Small P) (hfw : Few P) {a : Int} (ha : I64 a) {x : HO} (hx : objA P a = some x) :
    Calls Try.prog 16 #[.pointer (some ⟨h, 0, none⟩), .int .i64 a] w fun e w' => e = .returned (.int .i64 x.id) ∧ Below w.heap.size w w' := by
  refine (id_any k hs hfw ha).mono ?_
  rintro e w' ⟨r, hr, rfl, hb⟩
  have q := found_objA hs hr
  rw [hx] at q
  cases ho : objOf P r with
  | none => rw [ho] at q; cases q
  | some z => rw [ho] at q; cases q; exact ⟨rfl, hb⟩
theorem kind_at {B : Nat} {w : World} {h mb : Nat} {P : PHp} {vyo vyf voo vof vn : Value} (k : HpAt B w h mb P vyo vyf voo vof vn) (hs : Small P) (hfw : Few P) {a : Int} (ha : I64 a) {x : HO} (hx : objA P a = some x) :
    Calls Try.prog 20 #[.pointer (some ⟨h, 0, none⟩), .int .i64 a] w fun e w' => e = .returned (.int .i64 x.kind) ∧ Below w.heap.size w w' := by
  refine (kind_any k hs hfw ha).mono ?_
  rintro e w' ⟨r, hr, rfl, hb⟩
  have q := found_objA hs hr
  rw [hx] at q
  cases ho : objOf P r with
  | none => rw [ho] at q; cases q
  | some z => rw [ho] at q; cases q; exact ⟨rfl, hb⟩
theorem tag_at {B : Nat} {w : World} {h mb : Nat} {P : PHp} {vyo vyf voo vof vn : Value} (k : HpAt B w h mb P vyo vyf voo vof vn) (hs : Small P) (hfw : Few P) {a : Int} (ha : I64 a) {x : HO} (hx : objA P a = some x) :
    Calls Try.prog 24 #[.pointer (some ⟨h, 0, none⟩), .int .i64 a] w fun e w' => e = .returned (.int .i64 x.tag) ∧ Below w.heap.size w w' := by
  refine (tag_any k hs hfw ha).mono ?_
  rintro e w' ⟨r, hr, rfl, hb⟩
  have q := found_objA hs hr
  rw [hx] at q
  cases ho : objOf P r with
  | none => rw [ho] at q; cases q
  | some z => rw [ho] at q; cases q; exact ⟨rfl, hb⟩
theorem size_at {B : Nat} {w : World} {h mb : Nat} {P : PHp} {vyo vyf voo vof vn : Value} (k : HpAt B w h mb P vyo vyf voo vof vn) (hs : Small P) (hfw : Few P) {a : Int} (ha : I64 a) {x : HO} (hx : objA P a = some x) :
    Calls Try.prog 8 #[.pointer (some ⟨h, 0, none⟩), .int .i64 a] w fun e w' => e = .returned (.int .i64 x.fs.length) ∧ Below w.heap.size w w' := by
  refine (size_any k hs hfw ha).mono ?_
  rintro e w' ⟨r, hr, rfl, hb⟩
  have q := found_objA hs hr
  rw [hx] at q
  cases ho : objOf P r with
  | none => rw [ho] at q; cases q
  | some z => rw [ho] at q; cases q; exact ⟨rfl, hb⟩
theorem get_at {B : Nat} {w : World} {h mb : Nat} {P : PHp} {vyo vyf voo vof vn : Value} (k : HpAt B w h mb P vyo vyf voo vof vn) (hs : Small P) (hfw : Few P) {a : Int} (ha : I64 a) {x : HO} (hx : objA P a = some x) {i : Nat} {u : HV} (hu : x.fs[i]? = some u) :
    Calls Try.prog 15 #[.pointer (some ⟨h, 0, none⟩), .int .i64 a, .int .i64 i] w fun e w' => e = .returned (.tuple #[.agg #[.int .i64 u.kind, .int .i64 u.n, .string u.s], .nilIface]) ∧ Below w.heap.size w w' := by
  refine (get_any k hs hfw ha).mono ?_
  rintro e w' ⟨r, hr, rfl, hb⟩
  have q := found_objA hs hr
  rw [hx] at q
  cases ho : objOf P r with
  | none => rw [ho] at q; cases q
  | some z =>
    rw [ho] at q
    cases q
    refine ⟨?_, hb⟩
    simp [getV, hu]
theorem walk_len {g : HV → List Int → Option (List Int × List Int)} (h : ∀ v seen r, g v seen = some r → seen.length ≤ r.2.length ∧ 0 < r.1.length) : ∀ (l : List HV) (seen : List Int) (r : List Int × List Int), walkL g l seen = some r → seen.length ≤ r.2.length
  | [], seen, r, e => by cases e; exact Nat.le_refl _
  | v :: l, seen, r, e => by
    rw [walkL] at e
    cases h1 : g v seen with
    | none => rw [h1] at e; cases e
    | some a =>
      rw [h1] at e
      simp only at e
      cases h2 : walkL g l a.2 with
      | none => rw [h2] at e; cases e
      | some b =>
        rw [h2] at e
        cases e
        exact Nat.le_trans (h v seen a h1).1 (walk_len h l a.2 b h2)
theorem shp_len {P : PHp} : ∀ (f : Nat) (v : HV) (seen : List Int) (r : List Int × List Int), shp P f v seen = some r → seen.length ≤ r.2.length ∧ 0 < r.1.length
  | 0, _, _, _, e => by cases e
  | f + 1, v, seen, r, e => by
    rw [shp] at e
    split at e
    · cases e; exact ⟨Nat.le_refl _, by simp⟩
    · split at e
      · cases e
      · split at e
        · cases e; exact ⟨Nat.le_refl _, by simp⟩
        · split at e
          · cases e
          · rename_i b hb
            cases e
            have := walk_len (fun v s r => shp_len f v s r) _ _ _ hb
            simp only [List.length_cons] at this
            exact ⟨by show seen.length ≤ b.2.length; omega, by simp⟩
def iv' (x : Int) : Value := .int .i64 x
/-- The numbers are written out, in a row of its own; what was seen; nothing else turned. -/
def ShapePost (w : World) (sb : Nat) (out seen' : List Int) (e : Ending) (w' : World) : Prop :=
  ∃ g cap, e = .returned (.slice (some ⟨g, 0, none⟩) out.length cap) ∧ w'.ownsRow w.heap.size 3 1 (.slice (some ⟨g, 0, none⟩) out.length cap) out.length (out.map iv') ∧ SeenAt w' sb seen' ∧ w.grownBy w' (some sb)
/-- Objects whose numbers are of 64 bits. -/
def Nums (P : PHp) : Prop := ∀ x ∈ P.Y ++ P.O, (0 ≤ x.id ∧ x.id ≤ 4611686018427387904) ∧ ∀ u ∈ x.fs, I64 u.n
theorem HpAt.grown {B : Nat} {w w' : World} {h mb : Nat} {P : PHp} {vyo vyf voo vof vn : Value} (k : HpAt B w h mb P vyo vyf voo vof vn) {sb : Nat} (hm : ∃ es cl, w.heap[sb]? = some (.map es cl)) (hg : w.grownBy w' (some sb)) : HpAt B w' h mb P vyo vyf voo vof vn := by
  obtain ⟨es, cl, hm⟩ := hm
  have mv : ∀ {j t}, Typ w j t → w'.heap[j]? = w.heap[j]? := fun hj => hg.block _ hj.lt (fun e => not_map hm hj (Option.some.inj e))
  exact ⟨(mv ⟨_, _, k.blk⟩).trans k.blk, owns_move k.yo fun j hj => mv (owns_ty k.yo hj), owns_move k.yf fun j hj => mv (owns_ty k.yf hj), owns_move k.oo fun j hj => mv (owns_ty k.oo hj), owns_move k.of' fun j hj => mv (owns_ty k.of' hj), owns_move k.nt fun j hj => mv (owns_ty k.nt hj)⟩
theorem grown_below {w w' w'' : World} {sb : Nat} (h : w.grownBy w' (some sb)) (hb : Below w'.heap.size w' w'') : w.grownBy w'' (some sb) :=
  ⟨hb.os.trans h.os, hb.tape.trans h.tape, hb.output.trans h.output, Nat.le_trans h.size hb.size, fun k hk hne => (hb.block k (Nat.lt_of_lt_of_le hk h.size)).trans (h.block k hk hne)⟩
theorem grown_trans {w w' w'' : World} {sb : Nat} (h : w.grownBy w' (some sb)) (k : w'.grownBy w'' (some sb)) : w.grownBy w'' (some sb) :=
  ⟨k.os.trans h.os, k.tape.trans h.tape, k.output.trans h.output, Nat.le_trans h.size k.size, fun j hj hne => (k.block j (Nat.lt_of_lt_of_le hj h.size) hne).trans (h.block j hj hne)⟩
theorem below_grown {w w' : World} {sb : Nat} (hb : Below w.heap.size w w') : w.grownBy w' (some sb) :=
  ⟨hb.os, hb.tape, hb.output, hb.size, fun k hk _ => hb.block k hk⟩

theorem ints_made (W : World) {B N : Nat} (hN : W.heap.size = N) (hB : B ≤ N) (l : List Int) (hl : l.length ≤ 1000000) : (W.alloc (.cells (l.map iv').toArray 3)).ownsRow B 3 1 (.slice (some ⟨N, 0, none⟩) l.length l.length) l.length (l.map iv') := by
  subst hN
  refine ⟨by simp, Or.inr ⟨W.heap.size, l.length, (l.map iv').toArray, rfl, hB, hnew _ _, Nat.le_refl _, by unfold maxLen; omega, by simp, ?_⟩⟩
  rw [Nat.mul_one, List.take_of_length_le (by simp)]

set_option maxRecDepth 100000 in
set_option maxHeartbeats 4000000 in
/-- A value that leads nowhere. -/
theorem shape_val {w : World} {hp sb : Nat} {v : HV} {seen : List Int} (hk : v.kind ≠ 4) (hsn : SeenAt w sb seen) :
    Calls Try.prog 10 #[.pointer (some ⟨hp, 0, none⟩), .agg #[.int .i64 v.kind, .int .i64 v.n, .string v.s], .map (some sb)] w fun e w' => ShapePost w sb [v.kind, v.n, (v.s.size : Int)] seen e w' := by
  have HSN := hide hsn
  clear hsn
  go_enter Try.func10, Try.ntmps10
  go_wp2_with fail
  go_ret
  have hb : ∀ a b, Below w.heap.size w ((w.alloc a).alloc b) := fun a b => ((Below.refl _ _).alloc (Nat.le_refl _) _).alloc (by simp) _
  exact ⟨_, _, rfl, ints_made (w.alloc _) (by simp) (Nat.le_succ _) [v.kind, v.n, (v.s.size : Int)] (by simp), (unhide HSN).keep ((hb _ _).block _ (unhide HSN).lt), below_grown (hb _ _)⟩

set_option maxRecDepth 100000 in
set_option maxHeartbeats 4000000 in
/-- An object that was seen. -/
theorem shape_seen {B : Nat} {w : World} {hp mb sb : Nat} {P : PHp} {vyo vyf voo vof vn : Value} (k : HpAt B w hp mb P vyo vyf voo vof vn) (hs : Small P) (hfw : Few P) (hnm : Nums P) {v : HV} (hn : I64 v.n) {seen : List Int} (hk : v.kind = 4) {x : HO} (hx : objA P v.n = some x) (hin : x.id ∈ seen) (hsn : SeenAt w sb seen) :
    Calls Try.prog 10 #[.pointer (some ⟨hp, 0, none⟩), .agg #[.int .i64 v.kind, .int .i64 v.n, .string v.s], .map (some sb)] w fun e w' => ShapePost w sb [-x.id] seen e w' := by
  have HSN := hide hsn
  have K := hide k
  have HS := hide hs
  have HFW := hide hfw
  have HX := hide hx
  have HN := hide hn
  have hid := (hnm x (objA_mem hx)).1
  have HIN := hide hin
  have h0 := hid.1
  have h1 := hid.2
  have HBA := hide (fun o => (Below.refl w.heap.size w).alloc (Nat.le_refl _) o)
  clear hsn k hs hfw hnm hx hn hin hid
  go_enter Try.func10, Try.ntmps10
  go_wp2_with fail
  refine (id_at ((unhide K).keep (unhide HBA _)) (unhide HS) (unhide HFW) (unhide HN) (unhide HX)).mono ?_
  rintro e w1 ⟨rfl, hb1⟩
  have HB1 := hide ((unhide HBA _).trans (hb1.mono (by simp)))
  have HSN1 := hide ((unhide HSN).keep ((unhide HB1).block _ (unhide HSN).lt))
  have lk := (unhide HSN1).look (x := x.id) ⟨by omega, by omega⟩
  rw [decide_eq_true (unhide HIN)] at lk
  clear hb1
  go_wp2_with fail
  go_ret
  have hb : ∀ a, Below w.heap.size w (w1.alloc a) := fun a => (unhide HB1).alloc (unhide HB1).size _
  exact ⟨_, _, rfl, ints_made w1 rfl (unhide HB1).size [-x.id] (by simp), (unhide HSN).keep ((hb _).block _ (unhide HSN).lt), below_grown (hb _)⟩
theorem infoInt : (Try.prog.info? 3).map (fun i => (i.zero, i.size, i.bytes)) = some (some (.int .i64 0), 1, 8) := by kernel_rfl
theorem one_iv (l : List Int) : ∀ u ∈ l.map iv', u.oneCell' = true := fun u hu => by
  obtain ⟨x, _, rfl⟩ := List.mem_map.1 hu
  rfl
theorem row_news {w : World} {B : Nat} {e : TypeId} {g n cap : Nat} {xs : List Value} (h : w.ownsRow B e 1 (.slice (some ⟨g, 0, none⟩) n cap) n xs) : ∀ j u, xs[j]? = some u → w.cell? ((⟨g, 0, none⟩ : Addr).add j) = some u := fun j u hu => by
  have hj := (List.getElem?_eq_some_iff.1 hu).1
  rw [h.1] at hj
  obtain ⟨g', cap', e', _, hc, _⟩ := owns_get h hj
  cases e'
  have ea : (⟨g, 0, none⟩ : Addr).add j = ⟨g, j, none⟩ := by simp [Addr.add]; omega
  rw [ea, hc, hu]
theorem drop_walk {g : HV → List Int → Option (List Int × List Int)} {l : List HV} {i : Nat} {u : HV} (hu : l[i]? = some u) {s : List Int} {r : List Int × List Int} (h : walkL g (l.drop i) s = some r) : ∃ a b, g u s = some a ∧ walkL g (l.drop (i + 1)) a.2 = some (b, r.2) ∧ r.1 = a.1 ++ b := by
  have hi := (List.getElem?_eq_some_iff.1 hu).1
  have e : l.drop i = u :: l.drop (i + 1) := by
    rw [← (List.getElem?_eq_some_iff.1 hu).2, List.getElem_cons_drop]
  rw [e, walkL] at h
  cases h1 : g u s with
  | none => rw [h1] at h; cases h
  | some a =>
    rw [h1] at h
    simp only at h
    cases h2 : walkL g (l.drop (i + 1)) a.2 with
    | none => rw [h2] at h; cases h
    | some b =>
      rw [h2] at h
      cases h
      exact ⟨a, b.1, rfl, h2, rfl⟩
/-- The rows so far, while fields are gone through. -/
structure ShIn (w : World) (v : HV) (sb : Nat) (out s1 : List Int) (g cap : Nat) (wr : World) : Prop where
  row : wr.ownsRow (w.heap.size + 1) 3 1 (.slice (some ⟨g, 0, none⟩) out.length cap) out.length (out.map iv')
  seen : SeenAt wr sb s1
  grown : w.grownBy wr (some sb)
  blk : wr.heap[w.heap.size]? = some (.cells #[.int .i64 4, .int .i64 v.n, .string v.s] 34 (0, 0))
theorem ShIn.keep {w : World} {v : HV} {sb : Nat} {out s1 : List Int} {g cap : Nat} {wr w' : World} (h : ShIn w v sb out s1 g cap wr) (hb : Below wr.heap.size wr w') : ShIn w v sb out s1 g cap w' :=
  ⟨owns_keep h.row hb, h.seen.keep (hb.block _ h.seen.lt), grown_below h.grown hb, (hb.block _ (hlt h.blk)).trans h.blk⟩

set_option maxRecDepth 100000 in
set_option maxHeartbeats 8000000 in
/-- An object that was not seen. -/
theorem shape_new {B : Nat} {w : World} {hp mb sb : Nat} {P : PHp} {vyo vyf voo vof vn : Value} (k : HpAt B w hp mb P vyo vyf voo vof vn) (hs : Small P) (hfw : Few P) (hnm : Nums P) {f : Nat}
    (rec : ∀ (W : World) (u : HV) (s o s' : List Int), shp P f u s = some (o, s') → I64 u.n → HpAt B W hp mb P vyo vyf voo vof vn → SeenAt W sb s → o.length ≤ 1000000 → s'.length ≤ 1000000 → Calls Try.prog 10 #[.pointer (some ⟨hp, 0, none⟩), .agg #[.int .i64 u.kind, .int .i64 u.n, .string u.s], .map (some sb)] W fun e w' => ShapePost W sb o s' e w')
    {v : HV} (hn : I64 v.n) {seen : List Int} (hk : v.kind = 4) {x : HO} (hx : objA P v.n = some x) (hin : x.id ∉ seen) {o2 seen' : List Int} (hw : walkL (shp P f) x.fs (x.id :: seen) = some (o2, seen')) {tot : List Int} (htot : [x.id, x.kind, x.tag, (x.fs.length : Int)] ++ o2 = tot) (hlen : 4 + o2.length ≤ 1000000) (hsl : seen'.length ≤ 1000000) (hsn : SeenAt w sb seen) :
    Calls Try.prog 10 #[.pointer (some ⟨hp, 0, none⟩), .agg #[.int .i64 v.kind, .int .i64 v.n, .string v.s], .map (some sb)] w fun e w' => ShapePost w sb tot seen' e w' := by
  have HSN := hide hsn
  have K := hide k
  have HS := hide hs
  have HFW := hide hfw
  have HX := hide hx
  have HN := hide hn
  have REC := hide rec
  have HW := hide hw
  have hid := (hnm x (objA_mem hx)).1
  have HU := hide (hnm x (objA_mem hx)).2
  have HIN := hide hin
  have HID := hide hid
  have HL := hide hlen
  have HT := hide htot
  have HSL := hide hsl
  have hfl : x.fs.length ≤ 10000000 := by
    rcases List.mem_append.1 (objA_mem hx) with q | q
    · have h1 := hfw.y
      obtain ⟨i, hi⟩ := List.getElem?_of_mem q
      have := begin_le hi
      omega
    · have h1 := hfw.o
      obtain ⟨i, hi⟩ := List.getElem?_of_mem q
      have := begin_le hi
      omega
  have hsl0 : seen.length ≤ 1000000 := by
    have := walk_len (fun v s r => shp_len f v s r) _ _ _ hw
    simp only [List.length_cons] at this
    omega
  have HBA := hide (fun o => (Below.refl w.heap.size w).alloc (Nat.le_refl _) o)
  have HK := hide (fun (wr : World) (hg : w.grownBy wr (some sb)) => k.grown hsn.blk hg)
  obtain ⟨i0, hi0, hz0, hz1, hz2⟩ := info_parts infoInt
  have entK : ∀ w : World, Sem.run Try.prog (callFunc 20 #[.pointer (some ⟨hp, 0, none⟩), .int .i64 v.n]) w = .ok (.enter 20 #[.pointer (some ⟨hp, 0, none⟩), .int .i64 v.n]) w := fun _ => by kernel_rfl
  have entT : ∀ w : World, Sem.run Try.prog (callFunc 24 #[.pointer (some ⟨hp, 0, none⟩), .int .i64 v.n]) w = .ok (.enter 24 #[.pointer (some ⟨hp, 0, none⟩), .int .i64 v.n]) w := fun _ => by kernel_rfl
  have entS : ∀ w : World, Sem.run Try.prog (callFunc 8 #[.pointer (some ⟨hp, 0, none⟩), .int .i64 v.n]) w = .ok (.enter 8 #[.pointer (some ⟨hp, 0, none⟩), .int .i64 v.n]) w := fun _ => by kernel_rfl
  clear hsn k hs hfw hnm hx hn hin hid rec hw hlen hsl htot
  go_enter Try.func10, Try.ntmps10
  go_wp2_with fail
  refine (id_at ((unhide K).keep (unhide HBA _)) (unhide HS) (unhide HFW) (unhide HN) (unhide HX)).mono ?_
  rintro e w1 ⟨rfl, hb1⟩
  have HB1 := hide ((unhide HBA _).trans (hb1.mono (by simp)))
  have HSN1 := hide ((unhide HSN).keep ((unhide HB1).block _ (unhide HSN).lt))
  have HV1 := hide ((hb1.block w.heap.size (by simp)).trans (hnew w _))
  have lk := (unhide HSN1).look (x := x.id) ⟨by have := (unhide HID).1; omega, by have := (unhide HID).2; omega⟩
  rw [decide_eq_false (unhide HIN)] at lk
  obtain ⟨w2, hput, hsn2, hg2⟩ := (unhide HSN1).put (x := x.id) ⟨by have := (unhide HID).1; omega, by have := (unhide HID).2; omega⟩ (unhide HIN) hsl0
  have HSN2 := hide hsn2
  have HG2 := hide (grown_trans (below_grown (sb := sb) (unhide HB1)) hg2)
  have hv2 := (hg2.block w.heap.size (hlt (unhide HV1)) (fun e => by have := (unhide HSN).lt; have := Option.some.inj e; omega)).trans (unhide HV1)
  have b3 : w2.cell? ⟨w.heap.size, 1, none⟩ = some (.int .i64 v.n) := hcell hv2 1
  have HV2 := hide hv2
  have K3 := hide (((unhide K).keep (unhide HB1)).grown (unhide HSN1).blk hg2)
  have HQ3 := hide (Below.drew (Below.refl w2.heap.size w2))
  clear hb1 hsn2 hg2 hv2 hsl0
  go_wp2_with fail
  refine wp_region_held_drew (S := fun w' => w'.cell? ⟨w.heap.size, 1, none⟩ = some (.int .i64 v.n)) (by kernel_rfl) b3 (fun hHeld => ?_)
  refine wpAnyH_take (i := 0) (oi := { dst := some 35, op := _, type := _, pos := _, after := _, guard := _ }) (v := ?_) rfl (by kernel_rfl) (by kernel_rfl) (by kernel_rfl) (fun _ _ _ h => h) (Or.inl ⟨by rfl, ?_⟩) (by assumption) ?_
  case refine_2 =>
    intro w hSw
    try dsimp only at hSw
    go_simp
    try with_reducible rfl
  simp only [Act.put, List.setIfInBounds_toArray, List.set_cons_zero, List.set_cons_succ]
  refine wpAnyH_take (i := 1) (oi := { dst := some 36, op := _, type := _, pos := _, after := _, guard := _ }) (v := ?_) rfl (by kernel_rfl) (by kernel_rfl) (by kernel_rfl) (fun _ _ _ h => h) (Or.inl ⟨by rfl, ?_⟩) (by assumption) ?_
  case refine_2 =>
    intro w hSw
    try dsimp only at hSw
    go_simp
    try with_reducible rfl
  simp only [Act.put, List.setIfInBounds_toArray, List.set_cons_zero, List.set_cons_succ]
  refine wpAnyH_take (i := 2) (oi := { dst := some 37, op := _, type := _, pos := _, after := _, guard := _ }) (v := ?_) rfl (by kernel_rfl) (by kernel_rfl) (by kernel_rfl) (fun _ _ _ h => h) (Or.inl ⟨by rfl, ?_⟩) (by assumption) ?_
  case refine_2 =>
    intro w hSw
    try dsimp only at hSw
    go_simp
    try with_reducible rfl
  simp only [Act.put, List.setIfInBounds_toArray, List.set_cons_zero, List.set_cons_succ]
  refine wpAnyH_take (i := 3) (oi := { dst := some 38, op := _, type := _, pos := _, after := _, guard := _ }) (v := ?_) rfl (by kernel_rfl) (by kernel_rfl) (by kernel_rfl) (fun _ _ _ h => h) (Or.inl ⟨by rfl, ?_⟩) (by assumption) ?_
  case refine_2 =>
    intro w hSw
    try dsimp only at hSw
    go_simp
    try with_reducible rfl
  simp only [Act.put, List.setIfInBounds_toArray, List.set_cons_zero, List.set_cons_succ]
  refine wpAnyH_take (i := 5) (oi := { dst := some 40, op := _, type := _, pos := _, after := _, guard := _ }) (v := ?_) rfl (by kernel_rfl) (by kernel_rfl) (by kernel_rfl) (fun _ _ _ h => h) (Or.inl ⟨by rfl, ?_⟩) (by assumption) ?_
  case refine_2 =>
    intro w hSw
    try dsimp only at hSw
    go_simp
    try with_reducible rfl
  simp only [Act.put, List.setIfInBounds_toArray, List.set_cons_zero, List.set_cons_succ]
  refine wpAnyH_take (i := 6) (oi := { dst := some 41, op := _, type := _, pos := _, after := _, guard := _ }) (v := ?_) rfl (by kernel_rfl) (by kernel_rfl) (by kernel_rfl) (fun _ _ _ h => h) (Or.inl ⟨by rfl, ?_⟩) (by assumption) ?_
  case refine_2 =>
    intro w hSw
    try dsimp only at hSw
    go_simp
    try with_reducible rfl
  simp only [Act.put, List.setIfInBounds_toArray, List.set_cons_zero, List.set_cons_succ]
  refine wpAnyH_take (i := 7) (oi := { dst := some 42, op := _, type := _, pos := _, after := _, guard := _ }) (v := ?_) rfl (by kernel_rfl) (by kernel_rfl) (by kernel_rfl) (fun _ _ _ h => h) (Or.inl ⟨by rfl, ?_⟩) (by assumption) ?_
  case refine_2 =>
    intro w hSw
    try dsimp only at hSw
    go_simp
    try with_reducible rfl
  simp only [Act.put, List.setIfInBounds_toArray, List.set_cons_zero, List.set_cons_succ]
  refine wpAnyH_take (i := 9) (oi := { dst := some 44, op := _, type := _, pos := _, after := _, guard := _ }) (v := ?_) rfl (by kernel_rfl) (by kernel_rfl) (by kernel_rfl) (fun _ _ _ h => h) (Or.inl ⟨by rfl, ?_⟩) (by assumption) ?_
  case refine_2 =>
    intro w hSw
    try dsimp only at hSw
    go_simp
    try with_reducible rfl
  simp only [Act.put, List.setIfInBounds_toArray, List.set_cons_zero, List.set_cons_succ]
  refine wpAnyH_take (i := 10) (oi := { dst := some 45, op := _, type := _, pos := _, after := _, guard := _ }) (v := ?_) rfl (by kernel_rfl) (by kernel_rfl) (by kernel_rfl) (fun _ _ _ h => h) (Or.inl ⟨by rfl, ?_⟩) (by assumption) ?_
  case refine_2 =>
    intro w hSw
    try dsimp only at hSw
    go_simp
    try with_reducible rfl
  simp only [Act.put, List.setIfInBounds_toArray, List.set_cons_zero, List.set_cons_succ]
  refine wpAnyH_take (i := 11) (oi := { dst := some 46, op := _, type := _, pos := _, after := _, guard := _ }) (v := ?_) rfl (by kernel_rfl) (by kernel_rfl) (by kernel_rfl) (fun _ _ _ h => h) (Or.inl ⟨by rfl, ?_⟩) (by assumption) ?_
  case refine_2 =>
    intro w hSw
    try dsimp only at hSw
    go_simp
    try with_reducible rfl
  simp only [Act.put, List.setIfInBounds_toArray, List.set_cons_zero, List.set_cons_succ]
  refine wpAnyH_ready (rs := [4]) (by kernel_rfl) (by simp) ?_
  refine AllReadyH.cons (o := { dst := some 39, op := _, type := _, pos := _, after := _, guard := _ }) rfl (fun K hK => ?_) AllReadyH.nil
  refine step_enterH rfl (by simp [Act.eval, entK, go_sem]) ((kind_at ((unhide K3).keep (unhide HQ3)) (unhide HS) (unhide HFW) (unhide HN) (unhide HX)).mono ?_)
  rintro e w4 ⟨rfl, hq⟩
  have b4 := cellk hq b3 (cell_lt b3)
  have HQ4 := hide ((unhide HQ3).trans (hq.mono (unhide HQ3).size))
  clear hq
  refine hK.out _ _ b4 (fun hHeld4 => ?_)
  clear hK K
  simp only [Act.put, List.setIfInBounds_toArray, List.set_cons_zero, List.set_cons_succ]
  refine wpAnyH_ready (rs := [8]) (by kernel_rfl) (by simp) ?_
  refine AllReadyH.cons (o := { dst := some 43, op := _, type := _, pos := _, after := _, guard := _ }) rfl (fun K hK => ?_) AllReadyH.nil
  refine step_enterH rfl (by simp [Act.eval, entT, go_sem]) ((tag_at ((unhide K3).keep (unhide HQ4)) (unhide HS) (unhide HFW) (unhide HN) (unhide HX)).mono ?_)
  rintro e w5 ⟨rfl, hq⟩
  have b5 := cellk hq b4 (cell_lt b4)
  have HQ5 := hide ((unhide HQ4).trans (hq.mono (unhide HQ4).size))
  clear hq
  refine hK.out _ _ b5 (fun hHeld8 => ?_)
  clear hK K
  simp only [Act.put, List.setIfInBounds_toArray, List.set_cons_zero, List.set_cons_succ]
  refine wpAnyH_ready (rs := [12]) (by kernel_rfl) (by simp) ?_
  refine AllReadyH.cons (o := { dst := some 47, op := _, type := _, pos := _, after := _, guard := _ }) rfl (fun K hK => ?_) AllReadyH.nil
  refine step_enterH rfl (by simp [Act.eval, entS, go_sem]) ((size_at ((unhide K3).keep (unhide HQ5)) (unhide HS) (unhide HFW) (unhide HN) (unhide HX)).mono ?_)
  rintro e w6 ⟨rfl, hq⟩
  have b6 := cellk hq b5 (cell_lt b5)
  have HQ6 := hide ((unhide HQ5).trans (hq.mono (unhide HQ5).size))
  clear hq
  refine hK.out _ _ b6 (fun hHeld12 => ?_)
  clear hK K
  simp only [Act.put, List.setIfInBounds_toArray, List.set_cons_zero, List.set_cons_succ]
  refine wpAnyH_ready (rs := [13]) (by kernel_rfl) (by simp) ?_
  refine AllReadyH.cons (o := { dst := some 48, op := _, type := _, pos := _, after := _, guard := _ }) rfl (fun K hK => ?_) AllReadyH.nil
  go_simp
  refine hK.out _ _ (by go_keep) (fun hHeld13 => ?_)
  clear hK K
  refine wpAnyH_take (i := 14) (oi := { dst := some 8, op := _, type := _, pos := _, after := _, guard := _ }) (v := ?_) rfl (by kernel_rfl) (by kernel_rfl) (by kernel_rfl) (fun _ _ _ h => h) (Or.inl ⟨by rfl, ?_⟩) (by assumption) ?_
  case refine_2 =>
    intro w hSw
    try dsimp only at hSw
    go_simp
    try with_reducible rfl
  simp only [Act.put, List.setIfInBounds_toArray, List.set_cons_zero, List.set_cons_succ]
  refine wpAnyH_done (by kernel_rfl) ?_ _
  have hg6 : w.grownBy w6 (some sb) := grown_below (unhide HG2) (unhide HQ6)
  have hv6 := ((unhide HQ6).block _ (hlt (unhide HV2))).trans (unhide HV2)
  have hl6 := hlt hv6
  have hs6 : SeenAt w6 sb (x.id :: seen) := (unhide HSN2).keep ((unhide HQ6).block _ (unhide HSN2).lt)
  have HI : ∃ wr, w6.alloc (.cells #[.int .i64 x.id, .int .i64 x.kind, .int .i64 x.tag, .int .i64 x.fs.length] 3) = wr ∧ ShIn w v sb [x.id, x.kind, x.tag, (x.fs.length : Int)] (x.id :: seen) w6.heap.size 4 wr := by
    have hb7 : ∀ o, Below w6.heap.size w6 (w6.alloc o) := fun o => (Below.refl _ _).alloc (Nat.le_refl _) o
    exact ⟨_, rfl, ⟨ints_made w6 rfl (by omega) [x.id, x.kind, x.tag, (x.fs.length : Int)] (by simp), hs6.keep ((hb7 _).block _ hs6.lt), grown_below hg6 (hb7 _), ((hb7 _).block _ hl6).trans hv6⟩⟩
  obtain ⟨w7, hw7, HI⟩ := HI
  have HI := hide HI
  rw [hw7]
  have hsb := (unhide HSN).lt
  clear hHeld hHeld4 hHeld8 hHeld12 hHeld13 b3 b4 b5 b6 HQ3 HQ4 HQ5 HQ6 HSN1 HSN2 HV1 HV2 HG2 HB1 HBA K K3 hg6 hv6 hl6 hs6 hput lk entK entT entS hw7 w1 w2 w4 w5 HIN HSN
  go_wp2_with fail
  go_loopg [8, 9] x.fs.length (fun gg ov iv wr => ∃ (i : Nat) (g cap : Nat) (o1 s1 o3 : List Int), gg = x.fs.length - i ∧ iv = .int .i64 i ∧ i ≤ x.fs.length ∧ ov = .slice (some ⟨g, 0, none⟩) o1.length cap ∧ Hid (ShIn w v sb o1 s1 g cap wr) ∧ Hid (walkL (shp P f) (x.fs.drop i) s1 = some (o3, seen') ∧ o1 ++ o3 = tot))
  case atStart => exact ⟨0, _, _, [x.id, x.kind, x.tag, (x.fs.length : Int)], _, o2, rfl, rfl, Nat.zero_le _, rfl, unhide HI, by rw [List.drop_zero]; exact unhide HW, unhide HT⟩
  case round =>
    obtain ⟨i, g, cap, o1, s1, o3, rfl, rfl, hil, rfl, HR, HWK⟩ := hrel
    have b1 : wr.cell? ⟨w.heap.size, 1, none⟩ = some (.int .i64 v.n) := hcell (unhide HR).blk 1
    by_cases hlt2 : i < x.fs.length
    · have hlt3 : (i : Int) < (x.fs.length : Int) := by omega
      obtain ⟨u, hu⟩ : ∃ u, x.fs[i]? = some u := ⟨_, List.getElem?_eq_getElem hlt2⟩
      obtain ⟨a, b, ga, gb, gc⟩ := drop_walk hu (unhide HWK).1
      have hal := (shp_len f u s1 a ga).2
      have hsl2 : a.2.length ≤ 1000000 := by
        have h1 : a.2.length ≤ seen'.length := walk_len (fun v s r => shp_len f v s r) _ _ _ gb
        have := unhide HSL
        omega
      have htl : o1.length + a.1.length ≤ 1000000 := by
        have h1 := congrArg List.length ((unhide HWK).2.trans (unhide HT).symm)
        have h2 : o3 = a.1 ++ b := gc
        have := unhide HL
        rw [h2] at h1
        simp only [List.length_append, List.length_cons, List.length_nil] at h1
        omega
      have HUN := hide (unhide HU u (List.mem_of_getElem? hu))
      have HGA := hide ga
      have HGB := hide gb
      have HGC := hide gc
      have HUU := hide hu
      have HAL := hide hal
      have HS2 := hide hsl2
      have HTL := hide htl
      clear hu ga gb gc hal hsl2 htl
      go_wp2_with fail
      refine (size_at (unhide HK _ (unhide HR).grown) (unhide HS) (unhide HFW) (unhide HN) (unhide HX)).mono ?_
      rintro e y1 ⟨rfl, hb1⟩
      have HR1 := hide ((unhide HR).keep hb1)
      have b2 : y1.cell? ⟨w.heap.size, 1, none⟩ = some (.int .i64 v.n) := hcell (unhide HR1).blk 1
      clear hb1 b1
      go_wp2_with fail
      refine (get_at (unhide HK _ (unhide HR1).grown) (unhide HS) (unhide HFW) (unhide HN) (unhide HX) (unhide HUU)).mono ?_
      rintro e y2 ⟨rfl, hb2⟩
      have HR2 := hide ((unhide HR1).keep hb2)
      clear hb2 b2
      go_wp2_with fail
      have HR3 := hide ((unhide HR2).keep ((Below.refl _ _).alloc (Nat.le_refl _) (.cells #[.int .i64 u.kind, .int .i64 u.n, .string u.s] 34)))
      generalize y2.alloc (.cells #[.int .i64 u.kind, .int .i64 u.n, .string u.s] 34) = y3 at *
      refine (unhide REC y3 u s1 a.1 a.2 (unhide HGA) (unhide HUN) (unhide HK _ (unhide HR3).grown) (unhide HR3).seen (by have := unhide HTL; omega) (unhide HS2)).mono ?_
      rintro e y4 ⟨g4, cap4, rfl, hrow4, hseen4, hg4⟩
      obtain ⟨es, cl, hm⟩ := (unhide HR3).seen.blk
      have hg : w.heap.size + 1 ≤ g := (owns_type (unhide HR3).row g rfl).1
      have HROW := hide (owns_move (w' := y4) (unhide HR3).row fun j hj => hg4.block j (owns_ty (unhide HR3).row hj).lt (fun e => not_map hm (owns_ty (unhide HR3).row hj) (Option.some.inj e)))
      have HV4 := hide ((hg4.block _ (hlt (unhide HR3).blk) (fun e => by have := Option.some.inj e; omega)).trans (unhide HR3).blk)
      have HG4 := hide (grown_trans (unhide HR3).grown hg4)
      have HROW4 := hide hrow4
      have HSEEN4 := hide hseen4
      have HGG := hide hg
      clear hrow4 hseen4 hg4 hm hg
      go_wp2_with (at_builtin; refine wpList_append_lies _ rfl _ _ _ rfl (w.heap.size + 1) 3 i0 (.int .i64 0) 1 8 Try.underlying22 hi0 hz0 hz1 hz2 rfl (by decide) _ o1.length (o1.map iv') rfl (unhide HROW) ⟨g4, 0, none⟩ a.1.length cap4 (a.1.map iv') rfl (by simp) (row_news (unhide HROW4)) (one_iv _) (unhide HAL) ?c3 ?c4 ?c5 y4.heap.size rfl ?_)
      case c3 => have := unhide HTL; unfold maxLen; omega
      case c4 => have := unhide HTL; omega
      case c5 => exact hlt (unhide HV4)
      intro g5 cap5 y5 hrow5 hg5 hat5 hlt5
      have HR5 : Hid (ShIn w v sb (o1 ++ a.1) a.2 g5 cap5 y5) := by
        have hg := unhide HGG
        refine ⟨?_, (unhide HSEEN4).keep (hg5.block _ (unhide HSEEN4).lt (fun e => ?_)), ⟨hg5.os.trans (unhide HG4).os, hg5.tape.trans (unhide HG4).tape, hg5.output.trans (unhide HG4).output, Nat.le_trans (unhide HG4).size hg5.size, fun j hj hne => (hg5.block j (Nat.lt_of_lt_of_le hj (unhide HG4).size) (fun e => ?_)).trans ((unhide HG4).block j hj hne)⟩, (hg5.block _ (hlt (unhide HV4)) (fun e => ?_)).trans (unhide HV4)⟩
        · rw [List.length_append, List.map_append]
          exact hrow5
        · have := Option.some.inj e
          simp only at this
          omega
        · have := Option.some.inj e
          simp only at this
          omega
        · have := Option.some.inj e
          simp only at this
          omega
      clear hrow5 hg5 hat5 hlt5
      go_wp2_with fail
      go_roundg (x.fs.length - (i + 1))
      case measure => omega
      case rel => exact ⟨i + 1, g5, cap5, o1 ++ a.1, a.2, b, rfl, by go_num, by omega, by rw [List.length_append], unhide HR5, unhide HGB, by rw [List.append_assoc, ← unhide HGC]; exact (unhide HWK).2⟩
    · obtain rfl : i = x.fs.length := by omega
      have hlt3 : decide ((x.fs.length : Int) < (x.fs.length : Int)) = false := by simp
      have HE := hide (show o3 = [] ∧ s1 = seen' by
        have := (unhide HWK).1
        rw [List.drop_of_length_le (Nat.le_refl _), walkL] at this
        cases this
        exact ⟨rfl, rfl⟩)
      go_wp2_with fail
      refine (size_at (unhide HK _ (unhide HR).grown) (unhide HS) (unhide HFW) (unhide HN) (unhide HX)).mono ?_
      rintro e y1 ⟨rfl, hb1⟩
      have HR1 := hide ((unhide HR).keep hb1)
      clear hb1
      go_wp2_with fail
      go_ret
      obtain ⟨rfl, rfl⟩ := unhide HE
      have e1 := (unhide HWK).2
      rw [List.append_nil] at e1
      subst e1
      exact ⟨g, cap, rfl, ⟨(unhide HR1).row.1, (unhide HR1).row.2.imp id (fun ⟨g', c', cur, q1, q2, q3⟩ => ⟨g', c', cur, q1, by omega, q3⟩)⟩, (unhide HR1).seen, (unhide HR1).grown⟩
theorem shape_any {B : Nat} {hp mb sb : Nat} {P : PHp} {vyo vyf voo vof vn : Value} (hs : Small P) (hfw : Few P) (hnm : Nums P) : ∀ (f : Nat) (W : World) (v : HV) (s o s' : List Int), shp P f v s = some (o, s') → I64 v.n → HpAt B W hp mb P vyo vyf voo vof vn → SeenAt W sb s → o.length ≤ 1000000 → s'.length ≤ 1000000 →
    Calls Try.prog 10 #[.pointer (some ⟨hp, 0, none⟩), .agg #[.int .i64 v.kind, .int .i64 v.n, .string v.s], .map (some sb)] W fun e w' => ShapePost W sb o s' e w'
  | 0, _, _, _, _, _, e, _, _, _, _, _ => by cases e
  | f + 1, W, v, s, o, s', e, hn, k, hsn, ho, hs' => by
    rw [shp] at e
    by_cases hk : v.kind ≠ 4
    · rw [if_pos hk] at e
      cases e
      exact shape_val hk hsn
    · rw [if_neg hk] at e
      have hk4 : v.kind = 4 := by simpa using hk
      cases hx : objA P v.n with
      | none => rw [hx] at e; cases e
      | some x =>
        rw [hx] at e
        simp only at e
        by_cases hin : x.id ∈ s
        · rw [if_pos hin] at e
          cases e
          exact shape_seen k hs hfw hnm hn hk4 hx hin hsn
        · rw [if_neg hin] at e
          cases hw : walkL (shp P f) x.fs (x.id :: s) with
          | none => rw [hw] at e; cases e
          | some b =>
            rw [hw] at e
            simp only [Option.some.injEq, Prod.mk.injEq] at e
            obtain ⟨e1, e2⟩ := e
            have hl := congrArg List.length e1
            simp only [List.length_append, List.length_cons, List.length_nil] at hl
            exact shape_new k hs hfw hnm (fun W u s o s' => shape_any hs hfw hnm f W u s o s') hn hk4 hx hin (o2 := b.1) (seen' := s') (by rw [← e2]; exact hw) e1 (by omega) hs' hsn
end Go.Proofs.Ytddfdefgdlfpmaa

namespace Go.Proofs.Ytddfdefgdlfpmaa
open Go.RowKit Go.Maps

theorem phi_kind (L : List PL) (v : HV) : (phi L v).kind = v.kind ∧ (v.kind ≠ 4 → phi L v = v) := by
  unfold phi
  constructor
  · split
    · rfl
    · split
      · rfl
      · split <;> rfl
  · intro h
    rw [if_pos h]
theorem objA_old {P : PHp} (hY : P.Y = []) {t : Nat} {y : HO} (h : P.O[t]? = some y) : objA P (P.fo + 2 * t) = some y := by
  unfold objA
  rw [hY, numIn_no (fun i hi => by simp at hi), numIn_some.2 ⟨(List.getElem?_eq_some_iff.1 h).1, rfl⟩]
  exact h
theorem objA_old_inv {P : PHp} (hY : P.Y = []) {a : Int} {y : HO} (h : objA P a = some y) : ∃ t : Nat, P.O[t]? = some y ∧ a = P.fo + 2 * t := by
  unfold objA at h
  rw [hY, numIn_no (fun i hi => by simp at hi)] at h
  simp only at h
  cases hq : numIn P.fo P.O.length a with
  | none => rw [hq] at h; cases h
  | some i =>
    rw [hq] at h
    exact ⟨i, h, (numIn_some.1 hq).2⟩
/-- What went, at the end: the same object, its fields led on. -/
theorem went_obj {M : MS} (hI : MInv 0 (allF M.T).length M) {q : Nat × Nat} {x : HO} (hq : objAt M.L q = some x) (hg : goneTo M.L q ≠ 0) : ∃ (t : Nat) (y : HO), M.T[t]? = some y ∧ goneTo M.L q = M.ft + 2 * (t : Int) ∧ y.id = x.id ∧ y.kind = x.kind ∧ y.tag = x.tag ∧ y.fs = x.fs.map (phi M.L) ∧ ∀ u ∈ x.fs, Went M.L u := by
  obtain ⟨t, _, ht, e⟩ := hI.conv q hg
  obtain ⟨y, hy⟩ : ∃ y, M.T[t]? = some y := ⟨_, List.getElem?_eq_getElem ht⟩
  obtain ⟨q2, x2, a1, a2, a3⟩ := hI.orig t y (Nat.zero_le _) hy
  have : q2 = q := hI.inj q2 q (by omega) (by omega)
  subst this
  rw [hq] at a2
  cases a2
  unfold hdr at a3
  simp only [Prod.mk.injEq] at a3
  obtain ⟨b1, b2, b3, b4, _⟩ := a3
  have key : ∀ k u, x.fs[k]? = some u → y.fs[k]? = some (phi M.L u) ∧ Went M.L u := fun k u hu => by
    have hk : k < y.fs.length := by
      have := (List.getElem?_eq_some_iff.1 hu).1
      omega
    have hb := begin_le hy
    have h1 := (hI.flds t q2 x k u (Nat.zero_le _) ht e hq hu).1 (by omega)
    exact ⟨by rw [← allF_get hy hk]; exact h1.1, h1.2⟩
  refine ⟨t, y, hy, e, b3, b1, b2, ?_, fun u hu => ?_⟩
  · apply List.ext_getElem?
    intro k
    rw [List.getElem?_map]
    cases hu : x.fs[k]? with
    | none =>
      have := List.getElem?_eq_none_iff.1 hu
      rw [List.getElem?_eq_none (by omega)]
      rfl
    | some u => exact (key k u hu).1
  · obtain ⟨k, hk⟩ := List.getElem?_of_mem hu
    exact (key k u hk).2
/-- The parts that are left hold all objects. -/
def Cover (P : PHp) (L : List PL) : Prop := ∀ a x, objA P a = some x ↔ ∃ q, leadsTo L 0 a = some q ∧ objAt L q = some x
theorem Cover.later {P : PHp} {L L' : List PL} (h : Cover P L) (l : Later L L') : Cover P L' := fun a x => by
  rw [h a x]
  constructor
  · rintro ⟨q, h1, h2⟩
    exact ⟨q, by rw [l.leads]; exact h1, by rw [l.objs]; exact h2⟩
  · rintro ⟨q, h1, h2⟩
    exact ⟨q, by rw [← l.leads]; exact h1, by rw [← l.objs]; exact h2⟩
theorem sim_moved {P P' : PHp} {M : MS} (hI : MInv 0 (allF M.T).length M) (cov : Cover P M.L) (hY : P'.Y = []) (hO : P'.O = M.T) (hf : P'.fo = M.ft) : Sim P P' (phi M.L) (Went M.L) := by
  refine ⟨phi_kind M.L, fun v x hG hk hx => ?_⟩
  obtain ⟨q, hq, hqx⟩ := (cov _ _).1 hx
  have hg := hG hk q hq
  obtain ⟨t, y, hy, e, b1, b2, b3, b4, b5⟩ := went_obj hI hqx hg
  have hn : (phi M.L v).n = M.ft + 2 * (t : Int) := by
    unfold phi
    rw [if_neg (by simp [hk]), hq]
    simp only [if_neg hg]
    exact e
  exact ⟨y, by rw [hn, ← hf]; exact objA_old hY (by rw [hO]; exact hy), b1, b2, b3, b4, b5⟩

/-- Where a value leads is in S. -/
def RIn (S : List Int) (L : List PL) (v : HV) : Prop := v.kind = 4 → ∀ q x, leadsTo L 0 v.n = some q → objAt L q = some x → x.id ∈ S
def GoneIn (S : List Int) (L : List PL) : Prop := ∀ q x, goneTo L q ≠ 0 → objAt L q = some x → x.id ∈ S
def ClosedL (S : List Int) (L : List PL) : Prop := ∀ q x, objAt L q = some x → x.id ∈ S → ∀ u ∈ x.fs, RIn S L u
theorem RIn.later {S : List Int} {L L' : List PL} {v : HV} (h : RIn S L v) (l : Later L L') : RIn S L' v := fun hk q x h1 h2 => h hk q x (by rw [← l.leads]; exact h1) (by rw [← l.objs]; exact h2)
theorem ClosedL.later {S : List Int} {L L' : List PL} (h : ClosedL S L) (l : Later L L') : ClosedL S L' := fun q x h1 h2 u hu => (h q x (by rw [← l.objs]; exact h1) h2 u hu).later l
theorem gone_move {S : List Int} {M : MS} (hf : Full M.L) (h : GoneIn S M.L) {v : HV} (hv : RIn S M.L v) : GoneIn S (moveV M v).1.L := by
  unfold moveV
  split
  · exact h
  · rename_i hk
    split
    · exact h
    · rename_i q hq
      split
      · exact h
      · split
        · exact h
        · rename_i x hx
          intro q' x' hg ho
          have ho' : objAt M.L q' = some x' := (objAt_setGone _ _ _ _).symm.trans ho
          have hg' : goneTo (setGone M.L q (M.ft + 2 * M.T.length)) q' ≠ 0 := hg
          rw [goneTo_set hf hx] at hg'
          by_cases e : q' = q
          · subst e
            exact hv (by simpa using hk) q' x' hq ho'
          · rw [if_neg e] at hg'
            exact h q' x' hg' ho'
theorem locate : ∀ (l : List HO) (s : Nat), s < (allF l).length → ∃ (t : Nat) (y : HO) (k : Nat), l[t]? = some y ∧ k < y.fs.length ∧ beginAt l t + k = s
  | [], s, h => by simp [allF] at h
  | x :: r, s, h => by
    by_cases hs : s < x.fs.length
    · exact ⟨0, x, s, rfl, hs, by simp [beginAt, allF]⟩
    · obtain ⟨t, y, k, h1, h2, h3⟩ := locate r (s - x.fs.length) (by simp [allF] at h ⊢; omega)
      refine ⟨t + 1, y, k, h1, h2, ?_⟩
      unfold beginAt at *
      simp only [List.take_succ_cons, allF, List.flatMap_cons, List.length_append] at h3 ⊢
      omega
theorem gone_field {S : List Int} {s : Nat} {M : MS} (hI : MInv 0 s M) (hs : s < (allF M.T).length) (h : GoneIn S M.L) (hc : ClosedL S M.L) : GoneIn S (fieldM M s).L := by
  obtain ⟨v, hv⟩ : ∃ v, (allF M.T)[s]? = some v := ⟨_, List.getElem?_eq_getElem hs⟩
  rw [fieldM_some hv]
  refine gone_move hI.full h ?_
  obtain ⟨t, y, k, hy, hk, e⟩ := locate M.T s hs
  obtain ⟨q, x, a1, a2, a3⟩ := hI.orig t y (Nat.zero_le _) hy
  unfold hdr at a3
  simp only [Prod.mk.injEq] at a3
  obtain ⟨_, _, _, b4, _⟩ := a3
  have hft := hI.ft
  obtain ⟨u, hu⟩ : ∃ u, x.fs[k]? = some u := ⟨_, List.getElem?_eq_getElem (show k < x.fs.length by omega)⟩
  have h2 := (hI.flds t q x k u (Nat.zero_le _) (List.getElem?_eq_some_iff.1 hy).1 a1 a2 hu).2 (by omega)
  rw [e, hv] at h2
  cases h2
  exact hc q x a2 (h q x (by omega) a2) v (List.mem_of_getElem? hu)
theorem gone_rest {S : List Int} : ∀ (f : Nat) {s : Nat} {M : MS}, MInv 0 s M → GoneIn S M.L → ClosedL S M.L → GoneIn S (restM f M s).L
  | 0, _, _, _, h, _ => h
  | f + 1, s, M, hI, h, hc => by
    rw [restM]
    split
    · rename_i hlt
      obtain ⟨h1, l1, _⟩ := hI.field hlt
      exact gone_rest f h1 (gone_field hI hlt h hc) (hc.later l1)
    · exact h
theorem gone_roots {S : List Int} {k0 s : Nat} : ∀ (l : List HV) {M : MS}, MInv k0 s M → GoneIn S M.L → (∀ v ∈ l, RIn S M.L v) → GoneIn S (rootsM M l).L
  | [], _, _, h, _ => h
  | v :: l, M, hI, h, hv => by
    obtain ⟨h1, l1, _⟩ := hI.move v
    exact gone_roots l h1 (gone_move hI.full h (hv v (List.mem_cons_self ..))) (fun u hu => (hv u (List.mem_cons_of_mem _ hu)).later l1)
theorem all_in {S : List Int} {s : Nat} {M : MS} (hI : MInv 0 s M) (h : GoneIn S M.L) : ∀ y ∈ M.T, y.id ∈ S := fun y hy => by
  obtain ⟨t, ht⟩ := List.mem_iff_getElem?.1 hy
  obtain ⟨q, x, a1, a2, a3⟩ := hI.orig t y (Nat.zero_le _) ht
  have hft := hI.ft
  rw [hdr_id a3]
  exact h q x (by omega) a2

/-- The objects that are left stay the same lists. -/
theorem modify_objs {q : Nat} {a : Int} : ∀ (L : List PL) (k : Nat), (L.modify k fun p => { p with went := p.went.set q a }).map PL.objs = L.map PL.objs
  | [], k => by simp
  | p :: r, 0 => by simp
  | p :: r, k + 1 => by simp [modify_objs r k]
theorem move_objs (M : MS) (v : HV) : (moveV M v).1.L.map PL.objs = M.L.map PL.objs := by
  unfold moveV
  split
  · rfl
  · split
    · rfl
    · split
      · rfl
      · split
        · rfl
        · exact modify_objs _ _
theorem field_objs (M : MS) (i : Nat) : (fieldM M i).L.map PL.objs = M.L.map PL.objs := by
  unfold fieldM
  split
  · rfl
  · exact move_objs _ _
theorem rest_objs : ∀ (f : Nat) (M : MS) (s : Nat), (restM f M s).L.map PL.objs = M.L.map PL.objs
  | 0, _, _ => rfl
  | f + 1, M, s => by
    rw [restM]
    split
    · rw [rest_objs f, field_objs]
    · rfl
theorem roots_objs : ∀ (l : List HV) (M : MS), (rootsM M l).L.map PL.objs = M.L.map PL.objs
  | [], _ => rfl
  | v :: l, M => (roots_objs l (moveV M v).1).trans (move_objs M v)

/-- Identities, where each one of these objects went somewhere, or nowhere. -/
theorem has_steps : ∀ (z : List (HO × Int)) (D : DataW Unit), Maps.IsMap D → (z.map fun p => p.1.id).Nodup → (∀ p ∈ z, 0 < p.1.id) →
    ∀ x, Maps.has (z.foldl (fun D p => idStep D p.1 p.2) D) (.int .i64 x) = true ↔ (∃ p ∈ z, p.1.id = x ∧ p.2 ≠ 0) ∨ ((∀ p ∈ z, p.1.id ≠ x) ∧ Maps.has D (.int .i64 x) = true)
  | [], D, _, _, _, x => by simp
  | p :: z, D, hm, hn, hp, x => by
    have hn' := List.nodup_cons.1 hn
    have hne : ∀ {a b : Int}, a ≠ b → Lit.int .i64 a ≠ Lit.int .i64 b := fun h e => h (by injection e)
    have hm' : Maps.IsMap (idStep D p.1 p.2) := by
      unfold idStep
      split
      · exact hm.del _
      · split
        · exact hm.put _ _
        · exact hm
    rw [List.foldl_cons, has_steps z _ hm' hn'.2 (fun q hq => hp q (List.mem_cons_of_mem _ hq)) x]
    have hpos := hp p (List.mem_cons_self ..)
    have hh : Maps.has (idStep D p.1 p.2) (.int .i64 x) = true ↔ (p.1.id = x ∧ p.2 ≠ 0) ∨ (p.1.id ≠ x ∧ Maps.has D (.int .i64 x) = true) := by
      unfold idStep
      by_cases h0 : p.2 = 0
      · rw [if_pos h0]
        by_cases e : p.1.id = x
        · rw [e, Maps.has_del_same]
          simp [h0]
        · rw [Maps.has_del_other (hne (fun q => e q.symm))]
          simp [e]
      · rw [if_neg h0, if_pos hpos]
        by_cases e : p.1.id = x
        · rw [e, Maps.has_put_same hm (by simp [WideAt.IsKeyLit])]
          simp [h0]
        · rw [Maps.has_put_other (hne (fun q => e q.symm))]
          simp [e]
    rw [hh]
    constructor
    · rintro (⟨q, hq, h1⟩ | ⟨h1, h2 | ⟨h2, h3⟩⟩)
      · exact Or.inl ⟨q, List.mem_cons_of_mem _ hq, h1⟩
      · exact Or.inl ⟨p, List.mem_cons_self .., h2⟩
      · exact Or.inr ⟨fun q hq => by rcases List.mem_cons.1 hq with rfl | hq; exact h2; exact h1 q hq, h3⟩
    · rintro (⟨q, hq, h1⟩ | ⟨h1, h2⟩)
      · rcases List.mem_cons.1 hq with rfl | hq
        · refine Or.inr ⟨fun r hr e => hn'.1 (List.mem_map.2 ⟨r, hr, e.trans h1.1.symm⟩), Or.inl h1⟩
        · exact Or.inl ⟨q, hq, h1⟩
      · exact Or.inr ⟨fun q hq => h1 q (List.mem_cons_of_mem _ hq), Or.inr ⟨h1 p (List.mem_cons_self ..), h2⟩⟩
def Z (L : List PL) : List (HO × Int) := L.flatMap fun p => p.objs.zip p.went
theorem idsAll_Z : ∀ (L : List PL) (D : DataW Unit), idsAll D L = (Z L).foldl (fun D p => idStep D p.1 p.2) D
  | [], D => rfl
  | p :: r, D => by
    show idsAll (idsPart D p) r = ((p.objs.zip p.went) ++ Z r).foldl _ D
    rw [List.foldl_append, idsAll_Z r]
    rfl
theorem Z_objs : ∀ {L : List PL}, Full L → (Z L).map Prod.fst = (L.map PL.objs).flatten
  | [], _ => rfl
  | p :: r, h => by
    have h1 := h p (List.mem_cons_self ..)
    show ((p.objs.zip p.went) ++ Z r).map Prod.fst = p.objs ++ (r.map PL.objs).flatten
    rw [List.map_append, Z_objs (fun q hq => h q (List.mem_cons_of_mem _ hq)), List.map_fst_zip (by omega)]
theorem Z_mem {L : List PL} (hf : Full L) {x : HO} {a : Int} : (x, a) ∈ Z L ↔ ∃ q, objAt L q = some x ∧ goneTo L q = a := by
  unfold Z
  rw [List.mem_flatMap]
  constructor
  · rintro ⟨p, hp, hz⟩
    obtain ⟨j, hj⟩ := List.getElem?_of_mem hp
    obtain ⟨i, hi⟩ := List.getElem?_of_mem hz
    rw [List.getElem?_zip_eq_some] at hi
    exact ⟨(j, i), by simp [objAt, hj, hi.1], by simp [goneTo, hj, hi.2]⟩
  · rintro ⟨q, h1, h2⟩
    unfold objAt at h1
    cases hL : L[q.1]? with
    | none => rw [hL] at h1; cases h1
    | some p =>
      rw [hL] at h1
      have h1 : p.objs[q.2]? = some x := h1
      have hlen := hf p (List.mem_of_getElem? hL)
      have hi := (List.getElem?_eq_some_iff.1 h1).1
      have h3 : p.went[q.2]? = some a := by
        unfold goneTo at h2
        rw [hL] at h2
        have h2 : (p.went[q.2]?).getD 0 = a := h2
        rw [List.getElem?_eq_getElem (by omega)] at h2 ⊢
        exact congrArg some h2
      refine ⟨p, List.mem_of_getElem? hL, List.mem_of_getElem? (i := q.2) ?_⟩
      rw [List.getElem?_zip_eq_some]
      exact ⟨h1, h3⟩
end Go.Proofs.Ytddfdefgdlfpmaa
