/-
  The heap whole, behind a Major and behind a Minor.
  Fields of which all is 0, made.
  An object of which all fields are 0 is added.
  The last identity is written.
  The heap, once an object is added to the nursery.
  Alloc, in general.
  A field of the nursery is set.
-/
import Derived.Test.YtddfdefgdlfpmaaM14
namespace Go.Proofs.Ytddfdefgdlfpmaa
open Go.RowKit Go.Maps

theorem hdr_id {x y : HO} (h : hdr y = hdr { x with noted := false }) : y.id = x.id := by
  unfold hdr at h
  exact (Prod.ext_iff.1 (Prod.ext_iff.1 (Prod.ext_iff.1 h).2).2).1
theorem mem_allF {T : List HO} {x : HO} (hx : x ∈ T) {v : HV} (hv : v ∈ x.fs) : v ∈ allF T := by
  unfold allF
  exact List.mem_flatMap.2 ⟨x, hx, hv⟩
theorem maj_obj {P : PHp} {q : Nat × Nat} {x : HO} (hq : objAt (majM P).L q = some x) : x ∈ P.Y ++ P.O := by
  unfold objAt majM at hq
  obtain ⟨i, k⟩ := q
  match i with
  | 0 => exact List.mem_append_left _ (List.mem_of_getElem? (by simpa using hq))
  | 1 => exact List.mem_append_right _ (List.mem_of_getElem? (by simpa using hq))
  | i + 2 => simp at hq
/-- How many there are behind a Major: no more than before. -/
theorem maj_few {P : PHp} (h2 : 2 ≤ P.fo) (l : List HV) {M : MS} (e : M = restM (Go.Proofs.Ytddfdefgdlfpmaa.pot (rootsM (majM P) l)) (rootsM (majM P) l) 0) : M.T.length ≤ P.Y.length + P.O.length ∧ (allF M.T).length ≤ (allF P.Y).length + (allF P.O).length := by
  have hz : (allF (majM P).T).length = 0 := by simp [majM, allF]
  have hI := MInv.start (M := majM P) (maj_fresh P) (by simp only [majM]; omega)
  obtain ⟨h5, _, _, _, p5, _⟩ := hI.roots l
  rw [hz] at h5
  have hc := (cnt_rest (Go.Proofs.Ytddfdefgdlfpmaa.pot (rootsM (majM P) l)) h5).trans (cnt_roots l hI)
  have hp := (pot_rest (Go.Proofs.Ytddfdefgdlfpmaa.pot (rootsM (majM P) l)) h5).trans p5
  rw [← e, (maj_cnt P).1] at hc
  rw [← e, (maj_cnt P).2] at hp
  have q1 := cnt_room M
  have q2 : (allF M.T).length ≤ Go.Proofs.Ytddfdefgdlfpmaa.pot M := by unfold Go.Proofs.Ytddfdefgdlfpmaa.pot; omega
  exact ⟨by omega, by omega⟩
/-- The heap behind a Major. -/
theorem MajorPost.next {B : Nat} {w w' : World} {hp mb : Nat} {P : PHp} {D : DataW Unit} {n : Nat} {vyo vyf voo vof vn : Value} (h : HpG B w hp mb P D n vyo vyf voo vof vn) {g : Option Addr} {l : List (Option (Nat × Nat × HV))} (q : MajorPost B P D n hp mb g l w w') (htop : P.fo + 2 * P.O.length + 4 * (P.Y.length + P.O.length) + 2 ≤ 4611686018427387904) :
    ∃ (M : MS) (n' : Nat) (vto' vtf' : Value) (mj : Int), HpG B w' hp mb (majP P M.T mj) (idsAll D M.L) n' (.slice none 0 0) (.slice none 0 0) vto' vtf' (.slice none 0 0) ∧ n' ≤ n + (P.Y.length + P.O.length) ∧ MInv 0 (allF M.T).length M ∧ Later (majM P).L M.L ∧ M.ft = P.fo + 2 * P.O.length ∧ M = restM (Go.Proofs.Ytddfdefgdlfpmaa.pot (rootsM (majM P) (rootVs l))) (rootsM (majM P) (rootVs l)) 0 ∧ (∀ rb ro v, some (rb, ro, v) ∈ l → Went M.L v) ∧
    M.T.length ≤ P.Y.length + P.O.length ∧ (allF M.T).length ≤ (allF P.Y).length + (allF P.O).length ∧ RtNow M w' g l l.length ∧
    (∀ j, vto'.ownBlock = some j → w.heap.size ≤ j) ∧ (∀ j, vtf'.ownBlock = some j → w.heap.size ≤ j) ∧
    (∀ k, k < w.heap.size → k ≠ hp → k ≠ mb → ¬ rootB l k → w'.heap[k]? = w.heap[k]?) ∧ w.heap.size ≤ w'.heap.size ∧ w'.os = w.os ∧ w'.tape = w.tape ∧ w'.output = w.output := by
  obtain ⟨M, n', vto', vtf', mj, hI, hC, hL, hft, he, hw, hr, hp', hm, hn, a1, a2, hk, hs, o1, o2, o3⟩ := q
  obtain ⟨f1, f2⟩ := maj_few h.two (rootVs l) he
  have q1 := h.cnt
  have q2 := h.pot
  have q3 := h.small
  have q4 := q3.y0
  have q5 := q3.y1
  have q6 := q3.yo
  have q7 := q3.oe
  have q8 := q3.o0
  have q9 := h.two
  refine ⟨M, n', vto', vtf', mj, ⟨hp', hm, fun j hj => (by cases hj), fun j hj => (by cases hj), ⟨?_, ?_, ?_, ?_, ?_, ?_⟩, ⟨?_, ?_⟩, ?_, ?_, ?_, ?_, fun x hx => ?_, Nat.le_trans h.hB hs⟩, hn, hI, hL, hft, he, hw, f1, f2, hr, a1, a2, hk, hs, o1, o2, o3⟩
  · simp only [majP]; omega
  · simp only [majP]; omega
  · simp only [majP, List.length_nil]; omega
  · simp only [majP]; omega
  · simp only [majP]; omega
  · simp only [majP]; omega
  · simp [majP, allF]
  · simp only [majP]; omega
  · simp only [majP]; omega
  · simp only [majP, List.length_nil]; omega
  · simp only [majP, show allF [] = [] from rfl, List.length_nil]; omega
  · simp only [majP, List.length_nil]; omega
  · have hx' : x ∈ M.T := by simpa [majP] using hx
    obtain ⟨t, ht⟩ := List.mem_iff_getElem?.1 hx'
    obtain ⟨p, y, _, hy, e⟩ := hI.orig t x (Nat.zero_le _) ht
    rw [hL.objs] at hy
    exact ⟨by rw [hdr_id e]; exact (h.vals y (maj_obj hy)).1, fun v hv => hC.nT v (mem_allF hx' hv)⟩
theorem min_obj {P : PHp} {q : Nat × Nat} {x : HO} (hq : objAt (minM P).L q = some x) : x ∈ P.Y ++ P.O := by
  unfold objAt minM at hq
  obtain ⟨i, k⟩ := q
  match i with
  | 0 => exact List.mem_append_left _ (List.mem_of_getElem? (by simpa using hq))
  | i + 1 => simp at hq
theorem min_cnt (P : PHp) : Go.Proofs.Ytddfdefgdlfpmaa.cnt (minM P) = P.Y.length + P.O.length ∧ Go.Proofs.Ytddfdefgdlfpmaa.pot (minM P) = (allF P.Y).length + (allF P.O).length := by
  constructor
  · unfold Go.Proofs.Ytddfdefgdlfpmaa.cnt
    rw [restW_fresh _ (min_fresh P)]
    simp [minM, sum_one]
    omega
  · unfold Go.Proofs.Ytddfdefgdlfpmaa.pot restOf
    rw [restW_fresh _ (min_fresh P)]
    simp only [minM, List.map_cons, List.map_nil, List.sum_cons, List.sum_nil, sum_fs]
    omega
/-- How many old ones there are behind a Minor: no more than both before. -/
theorem min_few {P : PHp} (h2 : 2 ≤ P.fo) (l : List HV) {M : MS} (e : M = restM (Go.Proofs.Ytddfdefgdlfpmaa.pot (rootsM (minM P) l) - (allF P.O).length) (rootsM (minM P) l) (allF P.O).length) : M.T.length ≤ P.Y.length + P.O.length ∧ (allF M.T).length ≤ (allF P.Y).length + (allF P.O).length := by
  have hI := MInv.start (M := minM P) (min_fresh P) (by simp only [minM]; omega)
  obtain ⟨h5, _, _, _, p5, _⟩ := hI.roots l
  rw [show allF (minM P).T = allF P.O from rfl] at h5
  have hc := (cnt_rest (Go.Proofs.Ytddfdefgdlfpmaa.pot (rootsM (minM P) l) - (allF P.O).length) h5).trans (cnt_roots l hI)
  have hp := (pot_rest (Go.Proofs.Ytddfdefgdlfpmaa.pot (rootsM (minM P) l) - (allF P.O).length) h5).trans p5
  rw [← e, (min_cnt P).1] at hc
  rw [← e, (min_cnt P).2] at hp
  have q1 := cnt_room M
  have q2 : (allF M.T).length ≤ Go.Proofs.Ytddfdefgdlfpmaa.pot M := by unfold Go.Proofs.Ytddfdefgdlfpmaa.pot; omega
  exact ⟨by omega, by omega⟩
/-- The heap behind a Minor. -/
theorem MinorPost.next {B : Nat} {w w' : World} {hp mb : Nat} {P : PHp} {D : DataW Unit} {n : Nat} {vyo vyf voo vof vn : Value} (h : HpG B w hp mb P D n vyo vyf voo vof vn) {g : Option Addr} {l : List (Option (Nat × Nat × HV))} (q : MinorPost B P D n hp mb g l voo vof w w') (htop : P.fo + 4 * (P.Y.length + P.O.length) + 2 ≤ 4611686018427387904) :
    ∃ (M : MS) (n' : Nat) (vto' vtf' : Value) (mn : Int), HpG B w' hp mb (minP P M.T mn) (idsAll D M.L) n' (.slice none 0 0) (.slice none 0 0) vto' vtf' (.slice none 0 0) ∧ n' ≤ n + P.Y.length ∧ MInv P.O.length (allF M.T).length M ∧ Later (minM P).L M.L ∧ M.ft = P.fo ∧ M = restM (Go.Proofs.Ytddfdefgdlfpmaa.pot (rootsM (minM P) (rootVs l)) - (allF P.O).length) (rootsM (minM P) (rootVs l)) (allF P.O).length ∧ (∃ r, M.T.map hdr = P.O.map hdr ++ r) ∧ (∀ i, i < (allF P.O).length → (allF M.T)[i]? = (allF P.O)[i]?) ∧ (∀ rb ro v, some (rb, ro, v) ∈ l → Went M.L v) ∧
    M.T.length ≤ P.Y.length + P.O.length ∧ (allF M.T).length ≤ (allF P.Y).length + (allF P.O).length ∧ RtNow M w' g l l.length ∧
    (vto'.ownBlock = voo.ownBlock ∨ ∀ j, vto'.ownBlock = some j → w.heap.size ≤ j) ∧ (vtf'.ownBlock = vof.ownBlock ∨ ∀ j, vtf'.ownBlock = some j → w.heap.size ≤ j) ∧
    (∀ k, k < w.heap.size → k ≠ hp → k ≠ mb → voo.ownBlock ≠ some k → vof.ownBlock ≠ some k → ¬ rootB l k → w'.heap[k]? = w.heap[k]?) ∧ w.heap.size ≤ w'.heap.size ∧ w'.os = w.os ∧ w'.tape = w.tape ∧ w'.output = w.output := by
  obtain ⟨M, n', vto', vtf', mn, hI, hC, hL, hft, he, hh, ho, hw, hr, hp', hm, hn, a1, a2, hk, hs, o1, o2, o3⟩ := q
  obtain ⟨f1, f2⟩ := min_few h.two (rootVs l) he
  have q1 := h.cnt
  have q2 := h.pot
  have q3 := h.small
  have q4 := q3.y0
  have q5 := q3.y1
  have q6 := q3.yo
  have q7 := q3.oe
  have q8 := q3.o0
  have q9 := h.two
  refine ⟨M, n', vto', vtf', mn, ⟨hp', hm, fun j hj => (by cases hj), fun j hj => (by cases hj), ⟨?_, ?_, ?_, ?_, ?_, ?_⟩, ⟨?_, ?_⟩, ?_, ?_, ?_, ?_, fun x hx => ?_, Nat.le_trans h.hB hs⟩, hn, hI, hL, hft, he, hh, ho, hw, f1, f2, hr, a1, a2, hk, hs, o1, o2, o3⟩
  · simp only [minP]; omega
  · simp only [minP]; omega
  · simp only [minP, List.length_nil]; omega
  · simp only [minP]; omega
  · simp only [minP]; omega
  · simp only [minP]; omega
  · simp [minP, allF]
  · simp only [minP]; omega
  · simp only [minP]; omega
  · simp only [minP, List.length_nil]; omega
  · simp only [minP, show allF [] = [] from rfl, List.length_nil]; omega
  · simp only [minP, List.length_nil]; omega
  · have hx' : x ∈ M.T := by simpa [minP] using hx
    obtain ⟨t, ht⟩ := List.mem_iff_getElem?.1 hx'
    refine ⟨?_, fun v hv => hC.nT v (mem_allF hx' hv)⟩
    by_cases hlt : t < P.O.length
    · obtain ⟨r, e⟩ := hh
      have q : (M.T.map hdr)[t]? = some (hdr x) := by rw [List.getElem?_map, ht]; rfl
      rw [e, List.getElem?_append_left (by simpa using hlt), List.getElem?_map, List.getElem?_eq_getElem hlt] at q
      have q' : hdr (P.O[t]) = hdr x := by simpa using q
      have : x.id = (P.O[t]).id := by
        unfold hdr at q'
        exact ((Prod.ext_iff.1 (Prod.ext_iff.1 (Prod.ext_iff.1 q').2).2).1).symm
      rw [this]
      exact (h.vals _ (List.mem_append_right _ (List.getElem_mem hlt))).1
    · obtain ⟨p, y, _, hy, e⟩ := hI.orig t x (by omega) ht
      rw [hL.objs] at hy
      rw [hdr_id e]
      exact (h.vals y (min_obj hy)).1
end Go.Proofs.Ytddfdefgdlfpmaa

namespace Go.Proofs.Ytddfdefgdlfpmaa
open Go.RowKit Go.Maps

def zeroHV : HV := ⟨0, 0, ByteArray.empty⟩
def zeroFs (sz : Nat) : List HV := List.replicate sz zeroHV
def zeroCells (sz : Nat) : Array Value := ((zeroFs sz).flatMap vCells).toArray
theorem zero_len (sz : Nat) : ((zeroFs sz).flatMap vCells).length = sz * 3 := by
  unfold zeroFs
  induction sz with
  | zero => rfl
  | succ n ih => rw [List.replicate_succ, List.flatMap_cons, List.length_append, ih]; simp [vCells]; omega
theorem made_zero (sz : Nat) : madeCells #[.int .i64 0, .int .i64 0, .string ByteArray.empty] (sz * 3) = zeroCells sz := by
  apply Array.ext_getElem?
  intro i
  by_cases hi : i < sz * 3
  · have hk : (zeroFs sz)[i / 3]? = some zeroHV := by
      unfold zeroFs
      rw [List.getElem?_replicate, if_pos (by omega)]
    have hv := vals_get hk (j := i % 3) (by omega)
    rw [show i / 3 * 3 + i % 3 = i by omega] at hv
    unfold zeroCells madeCells
    rw [show ((zeroFs sz).flatMap vCells).toArray[i]? = (vCells zeroHV)[i % 3]? from (List.getElem?_toArray).trans hv, Array.getElem?_map, Array.getElem?_range, if_pos hi]
    have : i % 3 = 0 ∨ i % 3 = 1 ∨ i % 3 = 2 := by omega
    rcases this with e | e | e <;> simp [e, vCells, zeroHV]
  · rw [Array.getElem?_eq_none (by rw [size_madeCells]; omega), Array.getElem?_eq_none (by unfold zeroCells; simp only [List.size_toArray]; rw [zero_len]; omega)]
theorem infoValG : (Try.prog.info? 34).map (fun i => (i.zero, i.size, i.bytes)) = some (some (.agg #[.int .i64 0, .int .i64 0, .string ByteArray.empty]), 3, 32) := by kernel_rfl
theorem make_vals {sz : Nat} (hsz : sz ≤ 1000) (w : World) : (Go.Instr.makeSlice 29 (.int .i64 sz) (.int .i64 sz)).run Try.prog w = .ok (.slice (some ⟨w.heap.size, 0, none⟩) sz sz) (w.alloc (.cells (zeroCells sz) 34)) := by
  have hi := infoValG
  cases hq : Try.prog.info? 34 with
  | none => rw [hq] at hi; cases hi
  | some i =>
    rw [hq] at hi
    simp only [Option.map_some, Option.some.injEq, Prod.mk.injEq] at hi
    obtain ⟨h1, h2, h3⟩ := hi
    have := run_makeSlice (P := Try.prog) w 29 34 i _ Try.underlying29 hq h1 .i64 .i64 sz sz (by omega) (Int.le_refl _) (by rw [h2]; omega) (by rw [h3]; omega) (by omega)
    rw [this, h2, Int.toNat_natCast]
    rw [show (Value.agg #[.int .i64 0, .int .i64 0, .string ByteArray.empty]).cells = #[.int .i64 0, .int .i64 0, .string ByteArray.empty] from rfl, made_zero]
end Go.Proofs.Ytddfdefgdlfpmaa

namespace Go.Proofs.Ytddfdefgdlfpmaa
open Go.RowKit Go.Maps

theorem add_made {B : Nat} {w : World} {b o : Nat} {cs : Array Value} {T : TypeId} {f : Int} {l : List HO} {vo vf : Value} (h : PtB B w b o cs T f l vo vf) (hB : B ≤ w.heap.size) (x : HO) {sz : Nat} (hx : x.fs = zeroFs sz) (hxn : x.noted = false) {vb : Nat} (hv : w.heap[vb]? = some (.cells (zeroCells sz) 34 (0, 0))) (hf0 : 0 ≤ f) (hf1 : f + 2 * l.length + 2 ≤ 4611686018427387904) (hfew : (allF l).length + sz ≤ 10000000) (hfo : l.length + 1 ≤ 10000000) (ho : o + 2 < cs.size) :
    Calls Try.prog 18 #[.pointer (some ⟨b, o, none⟩), .agg #[.int .i64 x.kind, .int .i64 x.tag, .int .i64 x.id, .int .i64 0, .int .i64 sz, .bool false], .slice (some ⟨vb, 0, none⟩) sz sz] w fun e w' => AddG B w b o cs T f l x vo vf e w' := by
  have hl : x.fs.length = sz := by rw [hx]; simp [zeroFs]
  by_cases h0 : sz = 0
  · subst h0
    exact add_none h hB x (by rw [hx]; rfl) hxn 0 false hf0 hf1 hfo ho
  · have := add_any h hB x (by omega) hxn 0 false (ad := ⟨vb, 0, none⟩) (c := sz) (fun j u hu => ?_) ⟨_, _, hv⟩ hf0 hf1 (by omega) hfo ho
    · rw [hl] at this
      exact this
    · rw [hx] at hu
      rw [show (Addr.add ⟨vb, 0, none⟩ j) = ⟨vb, j, none⟩ by simp [Addr.add]; exact fun e => e.symm]
      rw [hcell hv j]
      unfold zeroCells
      rw [List.getElem?_toArray]
      exact hu
end Go.Proofs.Ytddfdefgdlfpmaa

namespace Go.Proofs.Ytddfdefgdlfpmaa
open Go.RowKit Go.Maps

theorem last_cells {P : PHp} {vyo vyf voo vof vn : Value} {mb : Nat} (v : Int) : (hpCells P vyo vyf voo vof vn mb).setIfInBounds 10 (.int .i64 v) = hpCells { P with last := v } vyo vyf voo vof vn mb := by
  refine size13 (by simp [hpCells]) rfl (fun c hc => ?_)
  match c, hc with
  | 0, _ => simp [hpCells]
  | 1, _ => simp [hpCells]
  | 2, _ => simp [hpCells]
  | 3, _ => simp [hpCells]
  | 4, _ => simp [hpCells]
  | 5, _ => simp [hpCells]
  | 6, _ => simp [hpCells]
  | 7, _ => simp [hpCells]
  | 8, _ => simp [hpCells]
  | 9, _ => simp [hpCells]
  | 10, _ => simp [hpCells]
  | 11, _ => simp [hpCells]
  | 12, _ => simp [hpCells]
theorem HpG.wrote {B : Nat} {w : World} {hp mb : Nat} {P : PHp} {D : DataW Unit} {n : Nat} {vyo vyf voo vof vn : Value} (h : HpG B w hp mb P D n vyo vyf voo vof vn) (v : Int) : HpG B (w.setCell ⟨hp, 10, none⟩ (.int .i64 v)) hp mb { P with last := v } D n vyo vyf voo vof vn := by
  have tH : Typ w hp 51 := ⟨_, _, h.at'.blk⟩
  have mv : ∀ {k t}, Typ w k t → t ≠ 51 → (w.setCell ⟨hp, 10, none⟩ (.int .i64 v)).heap[k]? = w.heap[k]? := fun hk hne => hother _ (hk.ne tH hne)
  obtain ⟨a, ⟨es, cl, h1, h2⟩, c, d, e, f, g, i, j, k, l, m⟩ := h
  have hne : mb ≠ hp := fun q => by
    have := a.blk
    rw [← q, h1] at this
    cases this
  refine ⟨⟨?_, owns_move a.yo fun j hj => mv (owns_ty a.yo hj) (by decide), owns_move a.yf fun j hj => mv (owns_ty a.yf hj) (by decide), owns_move a.oo fun j hj => mv (owns_ty a.oo hj) (by decide), owns_move a.of' fun j hj => mv (owns_ty a.of' hj) (by decide), owns_move a.nt fun j hj => mv (owns_ty a.nt hj) (by decide)⟩, ⟨es, cl, (hother _ hne).trans h1, h2⟩, c, d, ⟨e.y0, e.o0, e.y1, e.o1, e.yo, e.oe⟩, ⟨f.y, f.o⟩, g, i, j, k, l, Nat.le_trans m (by simp [World.setCell])⟩
  rw [hset a.blk, last_cells]
end Go.Proofs.Ytddfdefgdlfpmaa

namespace Go.Proofs.Ytddfdefgdlfpmaa
open Go.RowKit Go.Maps

theorem young_cells {P : PHp} {vyo vyf voo vof vn vo vf : Value} {mb : Nat} (Y : List HO) : ((hpCells P vyo vyf voo vof vn mb).setIfInBounds (0 + 1) vo).setIfInBounds (0 + 2) vf = hpCells { P with Y := Y } vo vf voo vof vn mb := by
  refine size13 (by simp [hpCells]) rfl (fun c hc => ?_)
  match c, hc with
  | 0, _ => simp [hpCells]
  | 1, _ => simp [hpCells]
  | 2, _ => simp [hpCells]
  | 3, _ => simp [hpCells]
  | 4, _ => simp [hpCells]
  | 5, _ => simp [hpCells]
  | 6, _ => simp [hpCells]
  | 7, _ => simp [hpCells]
  | 8, _ => simp [hpCells]
  | 9, _ => simp [hpCells]
  | 10, _ => simp [hpCells]
  | 11, _ => simp [hpCells]
  | 12, _ => simp [hpCells]
theorem HpG.ptb {B : Nat} {w : World} {hp mb : Nat} {P : PHp} {D : DataW Unit} {n : Nat} {vyo vyf voo vof vn : Value} (h : HpG B w hp mb P D n vyo vyf voo vof vn) : PtB B w hp 0 (hpCells P vyo vyf voo vof vn mb) 51 P.fy P.Y vyo vyf :=
  ⟨h.at'.blk, rfl, rfl, rfl, h.at'.yo, h.at'.yf, h.few.y, by have := h.cnt; omega, by decide, by decide⟩
theorem HpG.added {B : Nat} {w w' : World} {hp mb : Nat} {P : PHp} {D : DataW Unit} {n : Nat} {vyo vyf voo vof vn vo vf : Value} (h : HpG B w hp mb P D n vyo vyf voo vof vn) {x : HO} (hP : PtB B w' hp 0 (((hpCells P vyo vyf voo vof vn mb).setIfInBounds (0 + 1) vo).setIfInBounds (0 + 2) vf) 51 P.fy (P.Y ++ [x]) vo vf) (hF : FrA hp vyo vyf w w')
    (h1 : vo.ownBlock = vyo.ownBlock ∨ ∀ j, vo.ownBlock = some j → w.heap.size ≤ j) (h2 : vf.ownBlock = vyf.ownBlock ∨ ∀ j, vf.ownBlock = some j → w.heap.size ≤ j)
    (c1 : P.Y.length + 1 + P.O.length + 1 ≤ 5000000) (c2 : (allF P.Y).length + x.fs.length + (allF P.O).length ≤ 10000000) (c3 : P.fo + 2 * P.O.length + 2 * (P.Y.length + 1 + P.O.length) + 2 ≤ 4611686018427387904) (c4 : P.fy + 2 * (P.Y.length + 1) ≤ 4611686018427387904) (c5 : I64 x.id ∧ ∀ v ∈ x.fs, I64 v.n) :
    HpG B w' hp mb { P with Y := P.Y ++ [x] } D n vo vf voo vof vn := by
  have tH : Typ w hp 51 := ⟨_, _, h.at'.blk⟩
  have al : (allF (P.Y ++ [x])).length = (allF P.Y).length + x.fs.length := by simp [allF]
  have mv : ∀ {k t}, Typ w k t → t ≠ 51 → vyo.ownBlock ≠ some k → vyf.ownBlock ≠ some k → w'.heap[k]? = w.heap[k]? := fun hk hne a b => hF.block _ hk.lt (hk.ne tH hne) a b
  have ny : ∀ {k t}, Typ w k t → t ≠ 56 → vyo.ownBlock ≠ some k := fun hk hne e => hk.ne (owns_ty h.at'.yo e) hne rfl
  have nf : ∀ {k t}, Typ w k t → t ≠ 34 → vyf.ownBlock ≠ some k := fun hk hne e => hk.ne (owns_ty h.at'.yf e) hne rfl
  obtain ⟨es, cl, m1, m2⟩ := h.own
  have hme : mb ≠ hp := fun q => by
    have := h.at'.blk
    rw [← q, m1] at this
    cases this
  have hmm : w'.heap[mb]? = w.heap[mb]? := hF.block _ (hlt m1) hme (fun e => not_map m1 (owns_ty h.at'.yo e) rfl) (fun e => not_map m1 (owns_ty h.at'.yf e) rfl)
  refine ⟨⟨?_, hP.objs, hP.flds, owns_move h.at'.oo fun j hj => mv (owns_ty h.at'.oo hj) (by decide) (fun e => h.ao j e hj) (nf (owns_ty h.at'.oo hj) (by decide)), owns_move h.at'.of' fun j hj => mv (owns_ty h.at'.of' hj) (by decide) (ny (owns_ty h.at'.of' hj) (by decide)) (fun e => h.af j e hj), owns_move h.at'.nt fun j hj => mv (owns_ty h.at'.nt hj) (by decide) (ny (owns_ty h.at'.nt hj) (by decide)) (nf (owns_ty h.at'.nt hj) (by decide))⟩, ⟨es, cl, hmm.trans m1, m2⟩, fun j hj => ?_, fun j hj => ?_, ⟨h.small.y0, h.small.o0, ?_, h.small.o1, h.small.yo, h.small.oe⟩, ⟨?_, h.few.o⟩, h.two, ?_, ?_, ?_, fun y hy => ?_, Nat.le_trans h.hB hF.size⟩
  · rw [hP.blk, young_cells (P.Y ++ [x])]
  · rcases h1 with q | q
    · exact h.ao j (q ▸ hj)
    · exact fun e => by have := (owns_ty h.at'.oo e).lt; have := q j hj; omega
  · rcases h2 with q | q
    · exact h.af j (q ▸ hj)
    · exact fun e => by have := (owns_ty h.at'.of' e).lt; have := q j hj; omega
  · simp only [List.length_append, List.length_singleton]; omega
  · simp only [al]; omega
  · simp only [List.length_append, List.length_singleton]; omega
  · simp only [al]; exact c2
  · simp only [List.length_append, List.length_singleton]; omega
  · simp only [List.mem_append, List.mem_singleton] at hy
    rcases hy with (q | q) | q
    · exact h.vals y (List.mem_append_left _ q)
    · subst q; exact c5
    · exact h.vals y (List.mem_append_right _ q)
end Go.Proofs.Ytddfdefgdlfpmaa

namespace Go.Proofs.Ytddfdefgdlfpmaa
open Go.RowKit Go.Maps

theorem HpG.stored {B : Nat} {w w' : World} {hp mb : Nat} {P : PHp} {D D' : DataW Unit} {n n' : Nat} {vyo vyf voo vof vn : Value} (h : HpG B w hp mb P D n vyo vyf voo vof vn) (ho : w'.ownsMap Try.prog 3 (plainElem Try.prog 3) mb n' D') (hg : w.grownBy w' (some mb)) : HpG B w' hp mb P D' n' vyo vyf voo vof vn := by
  obtain ⟨es, cl, m1, _⟩ := h.own
  have mv : ∀ {k t}, Typ w k t → w'.heap[k]? = w.heap[k]? := fun hk => hg.block _ hk.lt (fun e => not_map m1 hk (Option.some.inj e))
  have tH : Typ w hp 51 := ⟨_, _, h.at'.blk⟩
  exact ⟨⟨(mv tH).trans h.at'.blk, owns_move h.at'.yo fun j hj => mv (owns_ty h.at'.yo hj), owns_move h.at'.yf fun j hj => mv (owns_ty h.at'.yf hj), owns_move h.at'.oo fun j hj => mv (owns_ty h.at'.oo hj), owns_move h.at'.of' fun j hj => mv (owns_ty h.at'.of' hj), owns_move h.at'.nt fun j hj => mv (owns_ty h.at'.nt hj)⟩, ho, h.ao, h.af, h.small, h.few, h.two, h.cnt, h.pot, h.top, h.vals, Nat.le_trans h.hB hg.size⟩
/-- The new object. -/
def newO (P : PHp) (tag : Int) (sz : Nat) : HO := ⟨2, tag, P.last + 1, zeroFs sz, false⟩
def allocP (P : PHp) (tag : Int) (sz : Nat) : PHp := { P with last := P.last + 1, Y := P.Y ++ [newO P tag sz] }
def AllocG (B : Nat) (w : World) (hp mb : Nat) (P : PHp) (D : DataW Unit) (n : Nat) (tag : Int) (sz : Nat) (vyo vyf voo vof vn : Value) (w' : World) : Prop :=
  ∃ vo vf, HpG B w' hp mb (allocP P tag sz) (D.put (.int .i64 (P.last + 1)) (.lit (.int .i64 (P.fy + 2 * P.Y.length)))) (n + 1) vo vf voo vof vn ∧
    (∀ k, k < w.heap.size → k ≠ hp → k ≠ mb → vyo.ownBlock ≠ some k → vyf.ownBlock ≠ some k → w'.heap[k]? = w.heap[k]?) ∧ (vo.ownBlock = vyo.ownBlock ∨ ∀ j, vo.ownBlock = some j → w.heap.size ≤ j) ∧ (vf.ownBlock = vyf.ownBlock ∨ ∀ j, vf.ownBlock = some j → w.heap.size ≤ j) ∧
    w.heap.size ≤ w'.heap.size ∧ w'.os = w.os ∧ w'.tape = w.tape ∧ w'.output = w.output

set_option maxRecDepth 100000 in
set_option maxHeartbeats 4000000 in
theorem alloc_any {B : Nat} {w : World} {hp mb : Nat} {P : PHp} {D : DataW Unit} {n : Nat} {vyo vyf voo vof vn : Value} (h : HpG B w hp mb P D n vyo vyf voo vof vn) {tag : Int} {sz : Nat} (hsz : sz ≤ 1000) (hroom : (P.Y.length + (allF P.Y).length : Int) + 1 + sz ≤ P.ry) (hy : P.Y.length ≤ 1000000) (c1 : P.Y.length + 1 + P.O.length + 1 ≤ 5000000) (c2 : (allF P.Y).length + sz + (allF P.O).length ≤ 10000000) (c3 : P.fo + 2 * P.O.length + 2 * (P.Y.length + 1 + P.O.length) + 2 ≤ 4611686018427387904) (c4 : P.fy + 2 * (P.Y.length + 1) ≤ 4611686018427387904) (hn : n ≤ 500000000) (hl0 : 0 ≤ P.last) (hl1 : P.last ≤ 1000000000) :
    Calls Try.prog 6 #[.pointer (some ⟨hp, 0, none⟩), .int .i64 2, .int .i64 tag, .int .i64 sz] w fun e w' => e = .returned (.tuple #[.int .i64 (P.fy + 2 * P.Y.length), .nilIface]) ∧ AllocG B w hp mb P D n tag sz vyo vyf voo vof vn w' := by
  have H := hide h
  have hfy := h.few.y
  have n1 : ¬ (sz : Int) < 0 := by omega
  have n2 : ¬ (1000 : Int) < (sz : Int) := by omega
  obtain ⟨cm, hcm⟩ : ∃ cm : Nat, P.Y.length + (allF P.Y).length = cm := ⟨_, rfl⟩
  have HCM : Hid (∀ X, Below w.heap.size w X → Calls Try.prog 17 #[.pointer (some ⟨hp, 0, none⟩)] X fun e w' => e = .returned (.int .i64 (cm : Int)) ∧ Below X.heap.size X w') := fun X hX => by
    have := cells_any ((h.at'.young h.few).keep hX) (by omega)
    rw [hcm] at this
    exact this
  have hcm2 : (cm : Int) + 1 + sz ≤ P.ry := by omega
  have hcm3 : cm ≤ 11000000 := by omega
  have w1 : IntKind.i64.wrap ((cm : Int) + 1) = (cm : Int) + 1 := wrap_id (by omega) (by omega)
  have w2 : IntKind.i64.wrap ((cm : Int) + 1 + (sz : Int)) = (cm : Int) + 1 + (sz : Int) := wrap_id (by omega) (by omega)
  have n3 : ¬ P.ry < (cm : Int) + 1 + (sz : Int) := by omega
  have wl : IntKind.i64.wrap (P.last + 1) = P.last + 1 := wrap_id (by omega) (by omega)
  clear h hcm hroom
  go_enter Try.func6, Try.ntmps6
  go_wp2_with fail
  have HD := hide ((unhide H).keep (Below.drew (Below.refl _ _)))
  refine wp_region_held_drew (S := fun w' => w'.cell? ⟨hp, 6, none⟩ = some (.int .i64 P.ry)) (by kernel_rfl) (hcell (unhide HD).at'.blk 6) (fun hHeld => ?_)
  refine wpAnyH_take (i := 0) (oi := { dst := some 27, op := _, type := _, pos := _, after := _, guard := _ }) (v := ?_) rfl (by kernel_rfl) (by kernel_rfl) (by kernel_rfl) (fun _ _ _ h => h) (Or.inl ⟨by rfl, ?_⟩) (by assumption) ?_
  case refine_2 =>
    intro w hSw
    try dsimp only at hSw
    go_simp
    try with_reducible rfl
  simp only [Act.put, List.setIfInBounds_toArray, List.set_cons_zero, List.set_cons_succ]
  refine wpAnyH_take (i := 1) (oi := { dst := some 28, op := _, type := _, pos := _, after := _, guard := _ }) (v := ?_) rfl (by kernel_rfl) (by kernel_rfl) (by kernel_rfl) (fun _ _ _ h => h) (Or.inl ⟨by rfl, ?_⟩) (by assumption) ?_
  case refine_2 =>
    intro w hSw
    try dsimp only at hSw
    go_simp
    try with_reducible rfl
  simp only [Act.put, List.setIfInBounds_toArray, List.set_cons_zero, List.set_cons_succ]
  refine wpAnyH_take (i := 2) (oi := { dst := some 29, op := _, type := _, pos := _, after := _, guard := _ }) (v := ?_) rfl (by kernel_rfl) (by kernel_rfl) (by kernel_rfl) (fun _ _ _ h => h) (Or.inl ⟨by rfl, ?_⟩) (by assumption) ?_
  case refine_2 =>
    intro w hSw
    try dsimp only at hSw
    go_simp
    try with_reducible rfl
  simp only [Act.put, List.setIfInBounds_toArray, List.set_cons_zero, List.set_cons_succ]
  refine wpAnyH_take (i := 3) (oi := { dst := some 30, op := _, type := _, pos := _, after := _, guard := _ }) (v := ?_) rfl (by kernel_rfl) (by kernel_rfl) (by kernel_rfl) (fun _ _ _ h => h) (Or.inl ⟨by rfl, ?_⟩) (by assumption) ?_
  case refine_2 =>
    intro w hSw
    try dsimp only at hSw
    go_simp
    try with_reducible rfl
  simp only [Act.put, List.setIfInBounds_toArray, List.set_cons_zero, List.set_cons_succ]
  refine wpAnyH_take (i := 4) (oi := { dst := some 31, op := _, type := _, pos := _, after := _, guard := _ }) (v := ?_) rfl (by kernel_rfl) (by kernel_rfl) (by kernel_rfl) (fun _ _ _ h => h) (Or.inl ⟨by rfl, ?_⟩) (by assumption) ?_
  case refine_2 =>
    intro w hSw
    try dsimp only at hSw
    go_simp
    try with_reducible rfl
  simp only [Act.put, List.setIfInBounds_toArray, List.set_cons_zero, List.set_cons_succ]
  refine wpAnyH_take (i := 5) (oi := { dst := some 32, op := _, type := _, pos := _, after := _, guard := _ }) (v := ?_) rfl (by kernel_rfl) (by kernel_rfl) (by kernel_rfl) (fun _ _ _ h => h) (Or.inl ⟨by rfl, ?_⟩) (by assumption) ?_
  case refine_2 =>
    intro w hSw
    try dsimp only at hSw
    go_simp
    try with_reducible rfl
  simp only [Act.put, List.setIfInBounds_toArray, List.set_cons_zero, List.set_cons_succ]
  refine wpAnyH_take (i := 8) (oi := { dst := some 35, op := _, type := _, pos := _, after := _, guard := _ }) (v := ?_) rfl (by kernel_rfl) (by kernel_rfl) (by kernel_rfl) (fun _ _ _ h => h) (Or.inl ⟨by rfl, ?_⟩) (by assumption) ?_
  case refine_2 =>
    intro w hSw
    try dsimp only at hSw
    go_simp
    try with_reducible rfl
  simp only [Act.put, List.setIfInBounds_toArray, List.set_cons_zero, List.set_cons_succ]
  refine wpAnyH_take (i := 10) (oi := { dst := some 37, op := _, type := _, pos := _, after := _, guard := _ }) (v := ?_) rfl (by kernel_rfl) (by kernel_rfl) (by kernel_rfl) (fun _ _ _ h => h) (Or.inl ⟨by rfl, ?_⟩) (by assumption) ?_
  case refine_2 =>
    intro w hSw
    try dsimp only at hSw
    go_simp
    try with_reducible rfl
  simp only [Act.put, List.setIfInBounds_toArray, List.set_cons_zero, List.set_cons_succ]
  refine wpAnyH_take (i := 11) (oi := { dst := some 38, op := _, type := _, pos := _, after := _, guard := _ }) (v := ?_) rfl (by kernel_rfl) (by kernel_rfl) (by kernel_rfl) (fun _ _ _ h => h) (Or.inl ⟨by rfl, ?_⟩) (by assumption) ?_
  case refine_2 =>
    intro w hSw
    try dsimp only at hSw
    go_simp
    try with_reducible rfl
  simp only [Act.put, List.setIfInBounds_toArray, List.set_cons_zero, List.set_cons_succ]
  refine wpAnyH_take (i := 12) (oi := { dst := some 39, op := _, type := _, pos := _, after := _, guard := _ }) (v := ?_) rfl (by kernel_rfl) (by kernel_rfl) (by kernel_rfl) (fun _ _ _ h => h) (Or.inl ⟨by rfl, ?_⟩) (by assumption) ?_
  case refine_2 =>
    intro w hSw
    try dsimp only at hSw
    go_simp
    try with_reducible rfl
  simp only [Act.put, List.setIfInBounds_toArray, List.set_cons_zero, List.set_cons_succ]
  refine wpAnyH_take (i := 13) (oi := { dst := some 40, op := _, type := _, pos := _, after := _, guard := _ }) (v := ?_) rfl (by kernel_rfl) (by kernel_rfl) (by kernel_rfl) (fun _ _ _ h => h) (Or.inl ⟨by rfl, ?_⟩) (by assumption) ?_
  case refine_2 =>
    intro w hSw
    try dsimp only at hSw
    go_simp
    try with_reducible rfl
  simp only [Act.put, List.setIfInBounds_toArray, List.set_cons_zero, List.set_cons_succ]
  refine wpAnyH_ready (rs := [6]) (by kernel_rfl) (by simp) ?_
  refine AllReadyH.cons (o := { dst := some 33, op := _, type := _, pos := _, after := _, guard := _ }) rfl (fun K hK => ?_) AllReadyH.nil
  go_simp
  refine (unhide HCM _ (Below.drew (Below.refl _ _))).mono ?_
  rintro e w3 ⟨rfl, hb1⟩
  have HB1 := hide ((Below.drew (Below.refl w.heap.size w)).trans hb1)
  have H1 := hide ((unhide H).keep (unhide HB1))
  clear hb1
  refine hK.out _ _ (hcell (unhide H1).at'.blk 6) (fun hHeld1 => ?_)
  clear hK K
  refine wpAnyH_take (i := 7) (oi := { dst := some 34, op := _, type := _, pos := _, after := _, guard := _ }) (v := ?_) rfl (by kernel_rfl) (by kernel_rfl) (by kernel_rfl) (fun _ _ _ h => h) (Or.inl ⟨by rfl, ?_⟩) (by assumption) ?_
  case refine_2 =>
    intro w hSw
    try dsimp only at hSw
    go_simp
    try with_reducible rfl
  simp only [Act.put, List.setIfInBounds_toArray, List.set_cons_zero, List.set_cons_succ]
  refine wpAnyH_take (i := 9) (oi := { dst := some 36, op := _, type := _, pos := _, after := _, guard := _ }) (v := ?_) rfl (by kernel_rfl) (by kernel_rfl) (by kernel_rfl) (fun _ _ _ h => h) (Or.inl ⟨by rfl, ?_⟩) (by assumption) ?_
  case refine_2 =>
    intro w hSw
    try dsimp only at hSw
    go_simp
    try with_reducible rfl
  simp only [Act.put, List.setIfInBounds_toArray, List.set_cons_zero, List.set_cons_succ]
  refine wpAnyH_take (i := 14) (oi := { dst := some 41, op := _, type := _, pos := _, after := _, guard := _ }) (v := ?_) rfl (by kernel_rfl) (by kernel_rfl) (by kernel_rfl) (fun _ _ _ h => h) (Or.inl ⟨by rfl, ?_⟩) (by assumption) ?_
  case refine_2 =>
    intro w hSw
    try dsimp only at hSw
    go_simp
    try with_reducible rfl
  simp only [Act.put, List.setIfInBounds_toArray, List.set_cons_zero, List.set_cons_succ]
  refine wpAnyH_take (i := 15) (oi := { dst := some 42, op := _, type := _, pos := _, after := _, guard := _ }) (v := ?_) rfl (by kernel_rfl) (by kernel_rfl) (by kernel_rfl) (fun _ _ _ h => h) (Or.inl ⟨by rfl, ?_⟩) (by assumption) ?_
  case refine_2 =>
    intro w hSw
    try dsimp only at hSw
    go_simp
    try with_reducible rfl
  simp only [Act.put, List.setIfInBounds_toArray, List.set_cons_zero, List.set_cons_succ]
  refine wpAnyH_done (by kernel_rfl) ?_ _
  have e6 : w3.cell? ⟨hp, 10, none⟩ = some (.int .i64 P.last) := hcell (unhide H1).at'.blk 10
  have f6 := hfroz (unhide H1).at'.blk 10
  have hh1 := hlt (unhide H1).at'.blk
  go_wp2_with fail
  have W2 := hide ((unhide H1).wrote (P.last + 1))
  have hs3 : (w3.setCell ⟨hp, 10, none⟩ (.int .i64 (P.last + 1))).heap.size = w3.heap.size := by simp [World.setCell]
  have hb2 : Below w3.heap.size (w3.setCell ⟨hp, 10, none⟩ (.int .i64 (P.last + 1))) ((w3.setCell ⟨hp, 10, none⟩ (.int .i64 (P.last + 1))).alloc (.cells #[.int .i64 2, .int .i64 tag, .int .i64 (P.last + 1), .int .i64 0, .int .i64 sz, .bool false] 56)) := by
    rw [← hs3]
    exact (Below.refl _ _).alloc (Nat.le_refl _) _
  have H2 := hide ((unhide W2).keep (by rw [hs3]; exact hb2))
  have HO2 := hide (hnew' (w3.setCell ⟨hp, 10, none⟩ (.int .i64 (P.last + 1))) (.cells #[.int .i64 2, .int .i64 tag, .int .i64 (P.last + 1), .int .i64 0, .int .i64 sz, .bool false] 56) hs3)
  have HS2 : Hid (w3.heap.size < ((w3.setCell ⟨hp, 10, none⟩ (.int .i64 (P.last + 1))).alloc (.cells #[.int .i64 2, .int .i64 tag, .int .i64 (P.last + 1), .int .i64 0, .int .i64 sz, .bool false] 56)).heap.size) := hlt (unhide HO2)
  have HK2 : Hid (∀ k, k < w3.heap.size → k ≠ hp → ((w3.setCell ⟨hp, 10, none⟩ (.int .i64 (P.last + 1))).alloc (.cells #[.int .i64 2, .int .i64 tag, .int .i64 (P.last + 1), .int .i64 0, .int .i64 sz, .bool false] 56)).heap[k]? = w3.heap[k]?) := fun k hk hne => (hb2.block k hk).trans (hother _ hne)
  have HT2 : Hid (((w3.setCell ⟨hp, 10, none⟩ (.int .i64 (P.last + 1))).alloc (.cells #[.int .i64 2, .int .i64 tag, .int .i64 (P.last + 1), .int .i64 0, .int .i64 sz, .bool false] 56)).os = w3.os ∧ ((w3.setCell ⟨hp, 10, none⟩ (.int .i64 (P.last + 1))).alloc (.cells #[.int .i64 2, .int .i64 tag, .int .i64 (P.last + 1), .int .i64 0, .int .i64 sz, .bool false] 56)).tape = w3.tape ∧ ((w3.setCell ⟨hp, 10, none⟩ (.int .i64 (P.last + 1))).alloc (.cells #[.int .i64 2, .int .i64 tag, .int .i64 (P.last + 1), .int .i64 0, .int .i64 sz, .bool false] 56)).output = w3.output) := ⟨hb2.os, hb2.tape, hb2.output⟩
  clear hb2 e6 f6 hs3 W2
  generalize (w3.setCell ⟨hp, 10, none⟩ (.int .i64 (P.last + 1))).alloc (.cells #[.int .i64 2, .int .i64 tag, .int .i64 (P.last + 1), .int .i64 0, .int .i64 sz, .bool false] 56) = W at *
  have HO3 := hide (show W.drew.heap[w3.heap.size]? = _ from unhide HO2)
  refine wp_region_held_drew (S := (fun w' => w'.cell? ⟨w3.heap.size, 0, none⟩ = some (.int .i64 2) ∧ w'.cell? ⟨w3.heap.size, 1, none⟩ = some (.int .i64 tag) ∧ w'.cell? ⟨w3.heap.size, 2, none⟩ = some (.int .i64 (P.last + 1)) ∧ w'.cell? ⟨w3.heap.size, 3, none⟩ = some (.int .i64 0) ∧ w'.cell? ⟨w3.heap.size, 4, none⟩ = some (.int .i64 sz) ∧ w'.cell? ⟨w3.heap.size, 5, none⟩ = some (.bool false))) (by kernel_rfl) ⟨hcell (unhide HO3) 0, hcell (unhide HO3) 1, hcell (unhide HO3) 2, hcell (unhide HO3) 3, hcell (unhide HO3) 4, hcell (unhide HO3) 5⟩ (fun hHeld2 => ?_)
  refine wpAnyH_take (i := 0) (oi := { dst := some 62, op := _, type := _, pos := _, after := _, guard := _ }) (v := ?_) rfl (by kernel_rfl) (by kernel_rfl) (by kernel_rfl) (fun _ _ _ h => h) (Or.inl ⟨by rfl, ?_⟩) (by assumption) ?_
  case refine_2 =>
    intro w hSw
    try dsimp only at hSw
    go_simp
    try with_reducible rfl
  simp only [Act.put, List.setIfInBounds_toArray, List.set_cons_zero, List.set_cons_succ]
  refine wpAnyH_take (i := 1) (oi := { dst := some 63, op := _, type := _, pos := _, after := _, guard := _ }) (v := ?_) rfl (by kernel_rfl) (by kernel_rfl) (by kernel_rfl) (fun _ _ _ h => h) (Or.inl ⟨by rfl, ?_⟩) (by assumption) ?_
  case refine_2 =>
    intro w hSw
    try dsimp only at hSw
    go_simp
    try with_reducible rfl
  simp only [Act.put, List.setIfInBounds_toArray, List.set_cons_zero, List.set_cons_succ]
  refine wpAnyH_take (i := 2) (oi := { dst := some 64, op := _, type := _, pos := _, after := _, guard := _ }) (v := ?_) rfl (by kernel_rfl) (by kernel_rfl) (by kernel_rfl) (fun _ _ _ h => h) (Or.inl ⟨by rfl, ?_⟩) (by assumption) ?_
  case refine_2 =>
    intro w hSw
    try dsimp only at hSw
    go_simp
    try with_reducible rfl
  simp only [Act.put, List.setIfInBounds_toArray, List.set_cons_zero, List.set_cons_succ]
  refine wpAnyH_take (i := 3) (oi := { dst := some 65, op := _, type := _, pos := _, after := _, guard := _ }) (v := ?_) rfl (by kernel_rfl) (by kernel_rfl) (by kernel_rfl) (fun _ _ _ h => h) (Or.inl ⟨by rfl, ?_⟩) (by assumption) ?_
  case refine_2 =>
    intro w hSw
    try dsimp only at hSw
    go_simp
    try with_reducible rfl
  simp only [Act.put, List.setIfInBounds_toArray, List.set_cons_zero, List.set_cons_succ]
  refine wpAnyH_take (i := 4) (oi := { dst := some 66, op := _, type := _, pos := _, after := _, guard := _ }) (v := ?_) rfl (by kernel_rfl) (by kernel_rfl) (by kernel_rfl) (fun _ _ _ h => h) (Or.inl ⟨by rfl, ?_⟩) (by assumption) ?_
  case refine_2 =>
    intro w hSw
    try dsimp only at hSw
    go_simp
    try with_reducible rfl
  simp only [Act.put, List.setIfInBounds_toArray, List.set_cons_zero, List.set_cons_succ]
  refine wpAnyH_ready (rs := [5]) (by kernel_rfl) (by simp) ?_
  refine AllReadyH.cons (o := { dst := some 67, op := _, type := _, pos := _, after := _, guard := _ }) rfl (fun K hK => ?_) AllReadyH.nil
  have mk2 := make_vals hsz
  go_simp
  clear mk2
  have hb3 : Below W.heap.size W (W.drew.alloc (.cells (zeroCells sz) 34)) := (Below.drew (Below.refl _ _)).alloc (Nat.le_refl _) _
  have H3 := hide ((unhide H2).keep hb3)
  have HO4 := hide ((hb3.block w3.heap.size (unhide HS2)).trans (unhide HO2))
  have HV3 : Hid ((W.drew.alloc (.cells (zeroCells sz) 34)).heap[W.heap.size]? = some (.cells (zeroCells sz) 34 (0, 0))) := hnew' W.drew _ rfl
  have HB3 := hide hb3
  clear hb3
  refine hK.out _ _ ⟨hcell (unhide HO4) 0, hcell (unhide HO4) 1, hcell (unhide HO4) 2, hcell (unhide HO4) 3, hcell (unhide HO4) 4, hcell (unhide HO4) 5⟩ (fun hHeld3 => ?_)
  clear hK K
  try simp only [World.heap_drew] at *
  refine wpAnyH_ready (rs := [6]) (by kernel_rfl) (by simp) ?_
  refine AllReadyH.cons (o := { dst := some 68, op := _, type := _, pos := _, after := _, guard := _ }) rfl (fun K hK => ?_) AllReadyH.nil
  go_simp
  refine (add_made (unhide H3).ptb (unhide H3).hB (newO P tag sz) rfl rfl (unhide HV3) (unhide H3).small.y0 (by show P.fy + 2 * (P.Y.length : Int) + 2 ≤ _; omega) (by show (allF P.Y).length + sz ≤ _; omega) (by show P.Y.length + 1 ≤ _; omega) (by simp [hpCells])).mono ?_
  rintro e w4 ⟨rfl, vo', vf', hP4, hF4, a4, b4⟩
  have H4 := hide ((unhide H3).added hP4 hF4 a4 b4 c1 (by show (allF P.Y).length + (zeroFs sz).length + (allF P.O).length ≤ _; simpa [zeroFs] using c2) c3 c4 ⟨⟨by show _ ≤ P.last + 1; omega, by show P.last + 1 ≤ _; omega⟩, fun v hv => by
    have : v = zeroHV := by
      have hv : v ∈ zeroFs sz := hv
      unfold zeroFs at hv
      exact List.eq_of_mem_replicate hv
    rw [this]
    exact ⟨by decide, by decide⟩⟩)
  have HO5 := hide ((hF4.block w3.heap.size (Nat.lt_of_lt_of_le (unhide HS2) (unhide HB3).size) (by omega) (fun e => by have := (owns_ty (unhide H1).at'.yo e).lt; omega) (fun e => by have := (owns_ty (unhide H1).at'.yf e).lt; omega)).trans (unhide HO4))
  have HF4 := hide hF4
  have HA4 := hide a4
  have HB4 := hide b4
  clear hP4 hF4 a4 b4
  refine hK.out _ _ ⟨hcell (unhide HO5) 0, hcell (unhide HO5) 1, hcell (unhide HO5) 2, hcell (unhide HO5) 3, hcell (unhide HO5) 4, hcell (unhide HO5) 5⟩ (fun hHeld4 => ?_)
  clear hK K
  refine wpAnyH_take (i := 7) (oi := { dst := some 11, op := _, type := _, pos := _, after := _, guard := _ }) (v := ?_) rfl (by kernel_rfl) (by kernel_rfl) (by kernel_rfl) (fun _ _ _ h => h) (Or.inl ⟨by rfl, ?_⟩) (by assumption) ?_
  case refine_2 =>
    intro w hSw
    try dsimp only at hSw
    go_simp
    try with_reducible rfl
  simp only [Act.put, List.setIfInBounds_toArray, List.set_cons_zero, List.set_cons_succ]
  refine wpAnyH_done (by kernel_rfl) ?_ _
  have g2 : w4.cell? ⟨w3.heap.size, 2, none⟩ = some (.int .i64 (P.last + 1)) := hcell (unhide HO5) 2
  have hpos : (0 : Int) < P.last + 1 := by omega
  clear hHeld hHeld1 hHeld2 hHeld3 hHeld4
  go_wp2_with fail
  have k9 : w4.drew.cell? ⟨hp, 9, none⟩ = some (.map (some mb)) := hcell (unhide H4).at'.blk 9
  have o9 : w4.drew.cell? ⟨w3.heap.size, 2, none⟩ = some (.int .i64 (P.last + 1)) := g2
  have hy0 := (unhide H4).small.y0
  obtain ⟨w5, hrun, how, htd⟩ := (unhide H4).own.drew.store keyIntS Try.underlying49 (show n < maxLen by unfold maxLen; omega) (keyOf_int_mk Try.underlying3 (wf_of (n := P.last + 1) ⟨by omega, by omega⟩)) (plainElem_int Try.underlying3 (wf_of (n := P.fy + 2 * P.Y.length) ⟨by have : 0 ≤ P.fy := hy0; omega, by omega⟩))
  have hgd := htd.grown
  have hmz : ∃ es cl, w4.heap[mb]? = some (.map es cl) := by obtain ⟨es, cl, hb, _⟩ := (unhide H4).own; exact ⟨es, cl, hb⟩
  obtain ⟨es9, cl9, hm9⟩ := hmz
  have u9 : w5.cell? ⟨hp, 9, none⟩ = some (.map (some mb)) := (World.cell?_of_block (hgd.block hp (cell_lt (a := ⟨hp, 9, none⟩) k9) (fun e => cell_ne k9 hm9 (Option.some.inj e)))).trans k9
  have u2 : w5.cell? ⟨w3.heap.size, 2, none⟩ = some (.int .i64 (P.last + 1)) := (World.cell?_of_block (hgd.block w3.heap.size (cell_lt (a := ⟨w3.heap.size, 2, none⟩) o9) (fun e => cell_ne o9 hm9 (Option.some.inj e)))).trans o9
  have hg4 : w4.grownBy w5 (some mb) := ⟨hgd.os, hgd.tape, hgd.output, hgd.size, hgd.block⟩
  have H5 := hide ((unhide H4).stored how hg4)
  have HG5 := hide hg4
  clear how htd hgd hm9 hg4
  refine wp_region_held_drew (S := fun w' => w'.cell? ⟨hp, 9, none⟩ = some (.map (some mb)) ∧ w'.cell? ⟨w3.heap.size, 2, none⟩ = some (.int .i64 (P.last + 1))) (by kernel_rfl) ⟨k9, o9⟩ (fun hHeld5 => ?_)
  refine wpAnyH_take (i := 0) (oi := { dst := some 72, op := _, type := _, pos := _, after := _, guard := _ }) (v := ?_) rfl (by kernel_rfl) (by kernel_rfl) (by kernel_rfl) (fun _ _ _ h => h) (Or.inl ⟨by rfl, ?_⟩) (by assumption) ?_
  case refine_2 =>
    intro w hSw
    try dsimp only at hSw
    go_simp
    try with_reducible rfl
  simp only [Act.put, List.setIfInBounds_toArray, List.set_cons_zero, List.set_cons_succ]
  refine wpAnyH_take (i := 1) (oi := { dst := some 73, op := _, type := _, pos := _, after := _, guard := _ }) (v := ?_) rfl (by kernel_rfl) (by kernel_rfl) (by kernel_rfl) (fun _ _ _ h => h) (Or.inl ⟨by rfl, ?_⟩) (by assumption) ?_
  case refine_2 =>
    intro w hSw
    try dsimp only at hSw
    go_simp
    try with_reducible rfl
  simp only [Act.put, List.setIfInBounds_toArray, List.set_cons_zero, List.set_cons_succ]
  refine wpAnyH_take (i := 2) (oi := { dst := some 74, op := _, type := _, pos := _, after := _, guard := _ }) (v := ?_) rfl (by kernel_rfl) (by kernel_rfl) (by kernel_rfl) (fun _ _ _ h => h) (Or.inl ⟨by rfl, ?_⟩) (by assumption) ?_
  case refine_2 =>
    intro w hSw
    try dsimp only at hSw
    go_simp
    try with_reducible rfl
  simp only [Act.put, List.setIfInBounds_toArray, List.set_cons_zero, List.set_cons_succ]
  refine wpAnyH_take (i := 3) (oi := { dst := some 75, op := _, type := _, pos := _, after := _, guard := _ }) (v := ?_) rfl (by kernel_rfl) (by kernel_rfl) (by kernel_rfl) (fun _ _ _ h => h) (Or.inl ⟨by rfl, ?_⟩) (by assumption) ?_
  case refine_2 =>
    intro w hSw
    try dsimp only at hSw
    go_simp
    try with_reducible rfl
  simp only [Act.put, List.setIfInBounds_toArray, List.set_cons_zero, List.set_cons_succ]
  refine wpAnyH_take (i := 4) (oi := { dst := some 76, op := _, type := _, pos := _, after := _, guard := _ }) (v := ?_) rfl (by kernel_rfl) (by kernel_rfl) (by kernel_rfl) (fun _ _ _ h => h) (Or.inl ⟨by rfl, ?_⟩) (by assumption) ?_
  case refine_2 =>
    intro w hSw
    try dsimp only at hSw
    go_simp
    try with_reducible rfl
  simp only [Act.put, List.setIfInBounds_toArray, List.set_cons_zero, List.set_cons_succ]
  refine wpAnyH_take (i := 5) (oi := { dst := some 77, op := _, type := _, pos := _, after := _, guard := _ }) (v := ?_) rfl (by kernel_rfl) (by kernel_rfl) (by kernel_rfl) (fun _ _ _ h => h) (Or.inl ⟨by rfl, ?_⟩) (by assumption) ?_
  case refine_2 =>
    intro w hSw
    try dsimp only at hSw
    go_simp
    try with_reducible rfl
  simp only [Act.put, List.setIfInBounds_toArray, List.set_cons_zero, List.set_cons_succ]
  refine wpAnyH_take (i := 6) (oi := { dst := some 78, op := _, type := _, pos := _, after := _, guard := _ }) (v := ?_) rfl (by kernel_rfl) (by kernel_rfl) (by kernel_rfl) (fun _ _ _ h => h) (Or.inl ⟨by rfl, ?_⟩) (by assumption) ?_
  case refine_2 =>
    intro w hSw
    try dsimp only at hSw
    go_simp
    try with_reducible rfl
  simp only [Act.put, List.setIfInBounds_toArray, List.set_cons_zero, List.set_cons_succ]
  refine wpAnyH_ready (rs := [7]) (by kernel_rfl) (by simp) ?_
  refine AllReadyH.cons (o := { dst := none, op := _, type := _, pos := _, after := _, guard := _ }) rfl (fun K hK => ?_) AllReadyH.nil
  go_simp
  refine hK.out _ _ ⟨u9, u2⟩ (fun hHeld6 => ?_)
  clear hK K
  refine wpAnyH_done (by kernel_rfl) ?_ _
  clear hrun k9 o9
  go_wp2_with fail
  go_ret2
  have z1 := (unhide HB1).size
  have z2 := unhide HS2
  have z3 := (unhide HB3).size
  have z4 := (unhide HF4).size
  have z5 := (unhide HG5).size
  have z6 := hlt (unhide H1).at'.blk
  refine ⟨rfl, vo', vf', unhide H5, fun k hk h1 h2 h3 h4 => ?_, ?_, ?_, by omega, ?_, ?_, ?_⟩
  · rw [(unhide HG5).block k (by omega) (fun e => h2 (Option.some.inj e)), (unhide HF4).block k (by omega) h1 h3 h4, (unhide HB3).block k (by omega), unhide HK2 k (by omega) h1]
    exact (unhide HB1).block k hk
  · exact (unhide HA4).imp id (fun q j hj => by have := q j hj; omega)
  · exact (unhide HB4).imp id (fun q j hj => by have := q j hj; omega)
  · exact (unhide HG5).os.trans ((unhide HF4).os.trans ((unhide HB3).os.trans ((unhide HT2).1.trans (unhide HB1).os)))
  · exact (unhide HG5).tape.trans ((unhide HF4).tape.trans ((unhide HB3).tape.trans ((unhide HT2).2.1.trans (unhide HB1).tape)))
  · exact (unhide HG5).output.trans ((unhide HF4).output.trans ((unhide HB3).output.trans ((unhide HT2).2.2.trans (unhide HB1).output)))
end Go.Proofs.Ytddfdefgdlfpmaa

namespace Go.Proofs.Ytddfdefgdlfpmaa
open Go.RowKit Go.Maps

theorem setF_ids {l : List HO} {i : Nat} {v : HV} {y : HO} (hy : y ∈ setF l i v) : ∃ x ∈ l, x.id = y.id := by
  have h : hdr y ∈ (setF l i v).map hdr := List.mem_map.2 ⟨y, hy, rfl⟩
  rw [setF_hdr] at h
  obtain ⟨x, hx, e⟩ := List.mem_map.1 h
  unfold hdr at e
  exact ⟨x, hx, (Prod.ext_iff.1 (Prod.ext_iff.1 (Prod.ext_iff.1 e).2).2).1⟩
theorem HpG.fieldSet {B : Nat} {w : World} {hp mb : Nat} {P : PHp} {D : DataW Unit} {n : Nat} {vyo vyf voo vof vn : Value} (h : HpG B w hp mb P D n vyo vyf voo vof vn) {g cap : Nat} (hv : vyf = .slice (some ⟨g, 0, none⟩) (allF P.Y).length cap) {i : Nat} (hi : i < (allF P.Y).length) (v : HV) (hn : I64 v.n) :
    HpG B (((w.setCell ⟨g, i * 3, none⟩ (.int .i64 v.kind)).setCell ⟨g, i * 3 + 1, none⟩ (.int .i64 v.n)).setCell ⟨g, i * 3 + 2, none⟩ (.string v.s)) hp mb { P with Y := setF P.Y i v } D n vyo vyf voo vof vn := by
  have hob : vyf.ownBlock = some g := by rw [hv]; rfl
  have hty : Typ w g 34 := owns_ty h.at'.yf hob
  have tH : Typ w hp 51 := ⟨_, _, h.at'.blk⟩
  have oth : ∀ k, k ≠ g → (((w.setCell ⟨g, i * 3, none⟩ (.int .i64 v.kind)).setCell ⟨g, i * 3 + 1, none⟩ (.int .i64 v.n)).setCell ⟨g, i * 3 + 2, none⟩ (.string v.s)).heap[k]? = w.heap[k]? := fun k hk => by
    rw [hother _ hk, hother _ hk, hother _ hk]
  have kt : ∀ {k t}, Typ w k t → t ≠ 34 → (((w.setCell ⟨g, i * 3, none⟩ (.int .i64 v.kind)).setCell ⟨g, i * 3 + 1, none⟩ (.int .i64 v.n)).setCell ⟨g, i * 3 + 2, none⟩ (.string v.s)).heap[k]? = w.heap[k]? := fun hk hne => oth _ (hk.ne hty hne)
  have hl3 : (setF P.Y i v).length = P.Y.length := setF_len _ _ _
  have hl4 : (allF (setF P.Y i v)).length = (allF P.Y).length := by rw [setF_allF, List.length_set]
  obtain ⟨es, cl, m1, m2⟩ := h.own
  refine ⟨⟨(kt tH (by decide)).trans h.at'.blk, ?_, ?_, owns_move h.at'.oo fun j hj => kt (owns_ty h.at'.oo hj) (by decide), owns_move h.at'.of' fun j hj => oth j (fun e => h.af g hob (e ▸ hj)), owns_move h.at'.nt fun j hj => kt (owns_ty h.at'.nt hj) (by decide)⟩, ⟨es, cl, (oth mb (fun e => not_map m1 hty e.symm)).trans m1, m2⟩, h.ao, h.af, ⟨h.small.y0, h.small.o0, by simp only [hl3]; exact h.small.y1, h.small.o1, h.small.yo, h.small.oe⟩, ⟨by simp only [hl4]; exact h.few.y, h.few.o⟩, h.two, by simp only [hl3]; exact h.cnt, by simp only [hl4]; exact h.pot, by simp only [hl3]; exact h.top, fun y hy => ?_, by simpa [World.setCell] using h.hB⟩
  · show World.ownsRow _ B _ 6 vyo (setF P.Y i v).length (rowO 0 (setF P.Y i v))
    rw [hl3, setF_rowO]
    exact owns_move h.at'.yo fun j hj => kt (owns_ty h.at'.yo hj) (by decide)
  · show World.ownsRow _ B _ 3 vyf (allF (setF P.Y i v)).length (rowF (setF P.Y i v))
    rw [hl4, rowF_set _ _ hi]
    exact owns_set3 h.at'.yf hv hi _ _ _
  · rcases List.mem_append.1 hy with q | q
    · obtain ⟨x, hx, e⟩ := setF_ids q
      refine ⟨by rw [← e]; exact (h.vals x (List.mem_append_left _ hx)).1, fun u hu => ?_⟩
      have hm : u ∈ allF (setF P.Y i v) := mem_allF q hu
      rw [setF_allF] at hm
      rcases List.mem_or_eq_of_mem_set hm with a | a
      · unfold allF at a
        obtain ⟨z, hz, hzu⟩ := List.mem_flatMap.1 a
        exact (h.vals z (List.mem_append_left _ hz)).2 u hzu
      · rw [a]; exact hn
    · exact h.vals y (List.mem_append_right _ q)
end Go.Proofs.Ytddfdefgdlfpmaa
