/-
  Objects that move, as plain data: all fields are gone through, and what leads where.
  What objects leave, in memory; which of it an address leads into.
  What takes objects into a part, in memory.
  An object has gone: what takes objects is as it should be again.
-/
import Derived.Test.YtddfdefgdlfpmaaM08
namespace Go.Proofs.Ytddfdefgdlfpmaa
open Go.RowKit

theorem fieldM_some {M : MS} {i : Nat} {v : HV} (h : (allF M.T)[i]? = some v) : fieldM M i = { (moveV M v).1 with T := setF (moveV M v).1.T i (moveV M v).2 } := by
  unfold fieldM
  rw [h]
/-- A field is gone through. -/
theorem MInv.field {k0 s : Nat} {M : MS} (h : MInv k0 s M) (hs : s < (allF M.T).length) : MInv k0 (s + 1) (fieldM M s) ∧ Later M.L (fieldM M s).L ∧ (fieldM M s).ft = M.ft ∧ (∃ r, (fieldM M s).T.map hdr = M.T.map hdr ++ r) ∧ (∀ i, i < s → (allF (fieldM M s).T)[i]? = (allF M.T)[i]?) := by
  obtain ⟨v, hv⟩ : ∃ v, (allF M.T)[s]? = some v := ⟨_, List.getElem?_eq_getElem hs⟩
  rw [fieldM_some hv]
  obtain ⟨h1, lat, e2, wn, r, hT⟩ := h.move v
  have hft := moveV_ft M v
  generalize (moveV M v).1 = M1 at *
  generalize (moveV M v).2 = v' at *
  have hh : (setF M1.T s v').map hdr = M1.T.map hdr := setF_hdr _ _ _
  have hbg : ∀ t, beginAt (setF M1.T s v') t = beginAt M1.T t := begin_hdr hh
  have hal : allF (setF M1.T s v') = (allF M1.T).set s v' := setF_allF _ _ _
  have h1s : s < (allF M1.T).length := by
    rw [hT]
    simp [allF] at hs ⊢
    omega
  have h1v : (allF M1.T)[s]? = some v := by
    rw [hT, show allF (M.T ++ r) = allF M.T ++ allF r by simp [allF], List.getElem?_append_left hs]
    exact hv
  have hlen : (setF M1.T s v').length = M1.T.length := setF_len _ _ _
  refine ⟨⟨h1.full, h1.ft, ?_, ?_, ?_, h1.inj, ?_, ?_⟩, lat, hft, ⟨r.map hdr, ?_⟩, ?_⟩
  · show k0 ≤ (setF M1.T s v').length
    rw [hlen]
    exact h1.kle
  · show s + 1 ≤ (allF (setF M1.T s v')).length
    rw [hal, List.length_set]
    omega
  · intro q hq
    obtain ⟨t, t1, t2, t3⟩ := h1.conv q hq
    exact ⟨t, t1, by show t < (setF M1.T s v').length; rw [hlen]; exact t2, t3⟩
  · intro t y ht hy
    have hy : (setF M1.T s v')[t]? = some y := hy
    have htl : t < M1.T.length := by
      have := (List.getElem?_eq_some_iff.1 hy).1
      omega
    obtain ⟨y', hy'⟩ : ∃ y', M1.T[t]? = some y' := ⟨_, List.getElem?_eq_getElem htl⟩
    have e : hdr y = hdr y' := by
      have := congrArg (fun l => l[t]?) hh
      simp only [List.getElem?_map, hy, hy', Option.map_some, Option.some.injEq] at this
      exact this
    obtain ⟨q, x, a1, a2, a3⟩ := h1.orig t y' ht hy'
    exact ⟨q, x, a1, a2, e.trans a3⟩
  · intro t q x k u ht htl hg ho hu
    have htl : t < M1.T.length := by
      have this : t < (setF M1.T s v').length := htl
      omega
    obtain ⟨f1, f2⟩ := h1.flds t q x k u ht htl hg ho hu
    show (beginAt (setF M1.T s v') t + k < s + 1 → (allF (setF M1.T s v'))[beginAt (setF M1.T s v') t + k]? = some (phi M1.L u) ∧ Went M1.L u) ∧ (s + 1 ≤ beginAt (setF M1.T s v') t + k → (allF (setF M1.T s v'))[beginAt (setF M1.T s v') t + k]? = some u)
    rw [hbg, hal, List.getElem?_set]
    refine ⟨fun hlt => ?_, fun hle => ?_⟩
    · by_cases e : s = beginAt M1.T t + k
      · have huv : u = v := by
          have := f2 (by omega)
          rw [← e, h1v] at this
          exact (Option.some.inj this).symm
        subst huv
        rw [if_pos e, if_pos (by omega), e2]
        exact ⟨rfl, wn⟩
      · rw [if_neg e]
        exact f1 (by omega)
    · rw [if_neg (by omega)]
      exact f2 (by omega)
  · show (setF M1.T s v').map hdr = _
    rw [hh, hT, List.map_append]
  · intro i hi
    show (allF (setF M1.T s v'))[i]? = _
    rw [hal, List.getElem?_set, if_neg (by omega), hT, show allF (M.T ++ r) = allF M.T ++ allF r by simp [allF], List.getElem?_append_left (by omega)]
theorem zip_set {a : Int} (ha : a ≠ 0) (f : HO → Nat) : ∀ (o : List HO) (w : List Int) (i : Nat) (x : HO), o[i]? = some x → w[i]? = some 0 →
    ((o.zip (w.set i a)).map fun z => if z.2 = 0 then f z.1 else 0).sum + f x = ((o.zip w).map fun z => if z.2 = 0 then f z.1 else 0).sum
  | y :: o, b :: w, 0, x, h1, h2 => by
    simp at h1 h2
    subst h1 h2
    simp [ha]
    omega
  | y :: o, b :: w, i + 1, x, h1, h2 => by
    have := zip_set ha f o w i x (by simpa using h1) (by simpa using h2)
    simp only [List.set_cons_succ, List.zip_cons_cons, List.map_cons, List.sum_cons]
    omega
  | [], _, _, _, h1, _ => by simp at h1
  | _ :: _, [], _, _, _, h2 => by simp at h2
theorem restW_set {a : Int} (ha : a ≠ 0) (f : HO → Nat) : ∀ (L : List PL) (j i : Nat) (x : HO), Full L → objAt L (j, i) = some x → goneTo L (j, i) = 0 → restW f (setGone L (j, i) a) + f x = restW f L
  | [], j, i, x, _, h, _ => by simp [objAt] at h
  | p :: r, 0, i, x, hf, h, hg => by
    have hl := hf p (List.mem_cons_self ..)
    have h1 : p.objs[i]? = some x := by simpa [objAt] using h
    have hi := (List.getElem?_eq_some_iff.1 h1).1
    have h2 : p.went[i]? = some 0 := by
      have h3 : (p.went[i]?).getD 0 = 0 := by simpa [goneTo] using hg
      rw [List.getElem?_eq_getElem (by omega)] at h3 ⊢
      simpa using h3
    have := zip_set ha f p.objs p.went i x h1 h2
    unfold restW setGone
    simp only [List.modify_zero_cons, List.map_cons, List.sum_cons]
    omega
  | p :: r, j + 1, i, x, hf, h, hg => by
    have := restW_set ha f r j i x (fun p hp => hf p (List.mem_cons_of_mem _ hp)) (by simpa [objAt] using h) (by simpa [goneTo] using hg)
    unfold restW setGone at *
    simp only [List.modify_succ_cons, List.map_cons, List.sum_cons] at *
    omega
theorem pot_move {M : MS} (hf : Full M.L) (hft : 0 < M.ft) (v : HV) : pot (moveV M v).1 = pot M := by
  unfold moveV
  split
  · rfl
  · split
    · rfl
    · rename_i q hq
      split
      · rfl
      · rename_i hg
        split
        · rfl
        · rename_i x hx
          have hg0 : goneTo M.L q = 0 := by simpa using hg
          have := restW_set (a := M.ft + 2 * M.T.length) (by omega) (fun x => x.fs.length) M.L q.1 q.2 x hf hx hg0
          unfold pot
          show (allF (M.T ++ [_])).length + restOf (setGone M.L q _) = _
          rw [show allF (M.T ++ [{ x with noted := false }]) = allF M.T ++ x.fs by simp [allF], List.length_append]
          have : restOf (setGone M.L q (M.ft + 2 * M.T.length)) + x.fs.length = restOf M.L := this
          omega
theorem pot_field {k0 s : Nat} {M : MS} (h : MInv k0 s M) (i : Nat) : pot (fieldM M i) = pot M := by
  cases hv : (allF M.T)[i]? with
  | none => unfold fieldM; rw [hv]
  | some v =>
    rw [fieldM_some hv, ← pot_move h.full h.ft v]
    unfold pot
    show (allF (setF _ _ _)).length + _ = _
    rw [setF_allF, List.length_set]
/-- All fields are gone through. -/
theorem MInv.rest {k0 : Nat} : ∀ (f : Nat) {s : Nat} {M : MS}, MInv k0 s M → pot M ≤ s + f → MInv k0 (allF (restM f M s).T).length (restM f M s) ∧ Later M.L (restM f M s).L ∧ (restM f M s).ft = M.ft ∧ (∃ r, (restM f M s).T.map hdr = M.T.map hdr ++ r) ∧ (∀ i, i < s → (allF (restM f M s).T)[i]? = (allF M.T)[i]?)
  | 0, s, M, h, hp => by
    have h1 : s = (allF M.T).length := by
      have := h.sle
      unfold pot at hp
      omega
    rw [restM]
    exact ⟨h1 ▸ h, Later.refl _, rfl, ⟨[], by simp⟩, fun _ _ => rfl⟩
  | f + 1, s, M, h, hp => by
    rw [restM]
    split
    · rename_i hlt
      obtain ⟨h1, l1, e1, ⟨r1, q1⟩, g1⟩ := h.field hlt
      obtain ⟨h2, l2, e2, ⟨r2, q2⟩, g2⟩ := MInv.rest f h1 (by rw [pot_field h]; omega)
      exact ⟨h2, l1.trans l2, e2.trans e1, ⟨r1 ++ r2, by rw [q2, q1, List.append_assoc]⟩, fun i hi => (g2 i (by omega)).trans (g1 i hi)⟩
    · rename_i hge
      have h1 : s = (allF M.T).length := by
        have := h.sle
        omega
      exact ⟨h1 ▸ h, Later.refl _, rfl, ⟨[], by simp⟩, fun _ _ => rfl⟩
theorem restM_done : ∀ (f f' : Nat) {k0 s : Nat} {M : MS}, MInv k0 s M → pot M ≤ s + f → f ≤ f' → restM f' M s = restM f M s
  | 0, f', k0, s, M, h, hp, _ => by
    have h1 : ¬ s < (allF M.T).length := by
      unfold pot at hp
      omega
    cases f' with
    | zero => rfl
    | succ f' => rw [restM, restM, if_neg h1]
  | f + 1, 0, k0, s, M, h, hp, hl => by omega
  | f + 1, f' + 1, k0, s, M, h, hp, hl => by
    rw [restM, restM]
    split
    · rename_i hlt
      exact restM_done f f' (h.field hlt).1 (by rw [pot_field h]; omega) (by omega)
    · rfl
theorem MInv.roots {k0 s : Nat} : ∀ (l : List HV) {M : MS}, MInv k0 s M → MInv k0 s (rootsM M l) ∧ Later M.L (rootsM M l).L ∧ (rootsM M l).ft = M.ft ∧ (∃ r, (rootsM M l).T = M.T ++ r) ∧ pot (rootsM M l) = pot M ∧ ∀ v ∈ l, Went (rootsM M l).L v
  | [], M, h => ⟨h, Later.refl _, rfl, ⟨[], by simp [rootsM]⟩, rfl, fun v hv => by cases hv⟩
  | v :: l, M, h => by
    obtain ⟨h1, l1, _, w1, r1, q1⟩ := h.move v
    obtain ⟨h2, l2, e2, ⟨r2, q2⟩, p2, w2⟩ := MInv.roots l h1
    refine ⟨h2, l1.trans l2, e2.trans (moveV_ft M v), ⟨r1 ++ r2, ?_⟩, p2.trans (pot_move h.full h.ft v), fun u hu => ?_⟩
    · show (rootsM (moveV M v).1 l).T = _
      rw [q2, q1, List.append_assoc]
    · rcases List.mem_cons.1 hu with rfl | hu
      · exact l2.went w1
      · exact w2 u hu
theorem cnt_move {M : MS} (hf : Full M.L) (hft : 0 < M.ft) (v : HV) : cnt (moveV M v).1 = cnt M := by
  unfold moveV
  split
  · rfl
  · split
    · rfl
    · rename_i q hq
      split
      · rfl
      · rename_i hg
        split
        · rfl
        · rename_i x hx
          have hg0 : goneTo M.L q = 0 := by simpa using hg
          have := restW_set (a := M.ft + 2 * M.T.length) (by omega) (fun _ => 1) M.L q.1 q.2 x hf hx hg0
          unfold cnt
          show (M.T ++ [_]).length + restW (fun _ => 1) (setGone M.L q _) = _
          have : restW (fun _ => 1) (setGone M.L q (M.ft + 2 * M.T.length)) + 1 = restW (fun _ => 1) M.L := this
          simp
          omega
theorem pot_room {M : MS} (hf : Full M.L) {q : Nat × Nat} {x : HO} (hx : objAt M.L q = some x) (hg : goneTo M.L q = 0) : (allF M.T).length + x.fs.length ≤ pot M := by
  have : restW (fun x => x.fs.length) (setGone M.L q 1) + x.fs.length = restW (fun x => x.fs.length) M.L := restW_set (a := 1) (by decide) (fun x => x.fs.length) M.L q.1 q.2 x hf hx hg
  unfold pot restOf
  omega
theorem cnt_room (M : MS) : M.T.length ≤ cnt M := by
  unfold cnt
  omega
/-- There is room for all, and all numbers are of 64 bits. -/
structure Cap (M : MS) : Prop where
  ft : 0 < M.ft
  cn : cnt M + 1 ≤ 5000000
  top : M.ft + 2 * (cnt M : Int) + 2 ≤ 4611686018427387904
  po : pot M ≤ 10000000
  full : Full M.L
  nT : ∀ v ∈ allF M.T, I64 v.n
  nL : ∀ q x, objAt M.L q = some x → ∀ v ∈ x.fs, I64 v.n
theorem I64.of_small {n : Int} (h0 : 0 ≤ n) (h1 : n ≤ 4611686018427387904) : I64 n := ⟨by omega, by omega⟩
theorem Cap.move {M : MS} (h : Cap M) {k0 s : Nat} (hi : MInv k0 s M) {v : HV} (hv : I64 v.n) : Cap (moveV M v).1 ∧ I64 (moveV M v).2.n := by
  have hc := cnt_move h.full h.ft v
  have hp := pot_move h.full h.ft v
  have hft := moveV_ft M v
  have h1 := h.ft
  have h2 := h.top
  have hcr := cnt_room M
  obtain ⟨hi', lat, e2, wn, r, hT⟩ := hi.move v
  have hobj : ∀ q x, objAt (moveV M v).1.L q = some x → ∀ v ∈ x.fs, I64 v.n := fun q x hq => h.nL q x (by rw [← lat.objs]; exact hq)
  refine ⟨⟨by rw [hft]; exact h.ft, by rw [hc]; exact h.cn, by rw [hft, hc]; exact h.top, by rw [hp]; exact h.po, hi'.full, ?_, hobj⟩, ?_⟩
  · have key : (moveV M v).1.T = M.T ∨ ∃ q x, objAt M.L q = some x ∧ (moveV M v).1.T = M.T ++ [{ x with noted := false }] := by
      unfold moveV
      split
      · exact Or.inl rfl
      · split
        · exact Or.inl rfl
        · rename_i q hq
          split
          · exact Or.inl rfl
          · split
            · exact Or.inl rfl
            · rename_i x hx
              exact Or.inr ⟨q, x, hx, rfl⟩
    rcases key with e | ⟨q, x, hx, e⟩
    · rw [e]; exact h.nT
    · rw [e]
      intro u hu
      rw [show allF (M.T ++ [{ x with noted := false }]) = allF M.T ++ x.fs by simp [allF]] at hu
      rcases List.mem_append.1 hu with hu | hu
      · exact h.nT u hu
      · exact h.nL q x hx u hu
  · rw [e2]
    unfold phi
    split
    · exact hv
    · split
      · exact hv
      · rename_i q hq
        split
        · exact hv
        · rename_i hg
          obtain ⟨t, t1, t2, t3⟩ := hi'.conv q hg
          have hcr' := cnt_room (moveV M v).1
          show I64 (goneTo (moveV M v).1.L q)
          rw [t3, hft]
          exact I64.of_small (by omega) (by omega)
theorem Cap.field {M : MS} (h : Cap M) {k0 s : Nat} (hi : MInv k0 s M) (i : Nat) : Cap (fieldM M i) := by
  cases hv : (allF M.T)[i]? with
  | none => unfold fieldM; rw [hv]; exact h
  | some v =>
    obtain ⟨c1, c2⟩ := h.move hi (h.nT v (List.mem_of_getElem? hv))
    rw [fieldM_some hv]
    have hl : (setF (moveV M v).1.T i (moveV M v).2).length = (moveV M v).1.T.length := setF_len _ _ _
    refine ⟨c1.ft, ?_, ?_, ?_, c1.full, ?_, c1.nL⟩
    · have := c1.cn
      unfold cnt at *
      show (setF _ _ _).length + _ + 1 ≤ _
      rw [hl]
      exact this
    · have := c1.top
      unfold cnt at *
      show _ + 2 * (((setF _ _ _).length + _ : Nat) : Int) + 2 ≤ _
      rw [hl]
      exact this
    · have := c1.po
      unfold pot at *
      show (allF (setF _ _ _)).length + _ ≤ _
      rw [setF_allF, List.length_set]
      exact this
    · intro u hu
      have hu : u ∈ allF (setF (moveV M v).1.T i (moveV M v).2) := hu
      rw [setF_allF] at hu
      rcases List.mem_or_eq_of_mem_set hu with hu | rfl
      · exact c1.nT u hu
      · exact c2
end Go.Proofs.Ytddfdefgdlfpmaa

namespace Go.Proofs.Ytddfdefgdlfpmaa
open Go.RowKit

/-- Where a part that objects leave lies: its block, its part's place, the block of where they went, its rows. -/
structure Lv where
  l : Nat
  pb : Nat
  po : Nat
  wb : Nat
  vo : Value
  vf : Value
structure LvAt (B : Nat) (w : World) (b : Lv) (p : PL) : Prop where
  c0 : w.cell? ⟨b.l, 0, none⟩ = some (.pointer (some ⟨b.pb, b.po, none⟩))
  c1 : w.cell? ⟨b.l, 1, none⟩ = some (.slice (some ⟨b.wb, 0, none⟩) p.objs.length p.objs.length)
  wn : w.heap[b.wb]? = some (.cells (p.went.map iv).toArray 3 (0, 0))
  full : p.went.length = p.objs.length
  f0 : w.cell? ⟨b.pb, b.po, none⟩ = some (.int .i64 p.first)
  pt : PtAt B w b.pb b.po p.objs b.vo b.vf
  lo : 0 ≤ p.first
  hi : p.first + 2 * p.objs.length ≤ 4611686018427387904
theorem LvAt.keep {B : Nat} {w w' : World} {b : Lv} {p : PL} (h : LvAt B w b p) (hb : Below w.heap.size w w') : LvAt B w' b p :=
  ⟨cellk hb h.c0 (cell_lt h.c0), cellk hb h.c1 (cell_lt h.c1), (hb.block _ (hlt h.wn)).trans h.wn, h.full, cellk hb h.f0 (cell_lt h.f0), h.pt.keep hb, h.lo, h.hi⟩
/-- The parts that a mover takes from. -/
structure FromAt (B : Nat) (w : World) (fb lb cb : Nat) (ls : List Lv) (L : List PL) : Prop where
  c : w.cell? ⟨fb, 0, none⟩ = some (.slice (some ⟨lb, 0, none⟩) ls.length cb)
  at' : ∀ (j : Nat) (b : Lv), ls[j]? = some b → w.cell? ⟨lb, j, none⟩ = some (.pointer (some ⟨b.l, 0, none⟩))
  len : ls.length = L.length
  few : ls.length ≤ 1000
  lvs : ∀ (j : Nat) (b : Lv) (p : PL), ls[j]? = some b → L[j]? = some p → LvAt B w b p
theorem FromAt.keep {B : Nat} {w w' : World} {fb lb cb : Nat} {ls : List Lv} {L : List PL} (h : FromAt B w fb lb cb ls L) (hb : Below w.heap.size w w') : FromAt B w' fb lb cb ls L :=
  ⟨cellk hb h.c (cell_lt h.c), fun j b hj => cellk hb (h.at' j b hj) (cell_lt (h.at' j b hj)), h.len, h.few, fun j b p hj hp => (h.lvs j b p hj hp).keep hb⟩
def leadV (ls : List Lv) : Option (Nat × Nat) → Value
  | none => .tuple #[.pointer none, .int .i64 0]
  | some q => match ls[q.1]? with
    | some b => .tuple #[.pointer (some ⟨b.l, 0, none⟩), .int .i64 q.2]
    | none => .tuple #[.pointer none, .int .i64 0]
def LeadPost (ls : List Lv) (L : List PL) (a : Int) (w : World) (e : Ending) (w' : World) : Prop := e = .returned (leadV ls (leadsTo L 0 a)) ∧ Below w.heap.size w w'
theorem leads_none {L : List PL} {k : Nat} {a : Int} (hk : L.length ≤ k) : leadsTo (L.drop k) k a = none := by
  rw [List.drop_eq_nil_of_le hk]
  rfl
theorem drop_cons {L : List PL} {k : Nat} {p : PL} (hp : L[k]? = some p) : L.drop k = p :: L.drop (k + 1) := by
  have hl := (List.getElem?_eq_some_iff.1 hp).1
  rw [List.drop_eq_getElem_cons hl, (List.getElem?_eq_some_iff.1 hp).2]
theorem leads_hit {L : List PL} {k i : Nat} {p : PL} {a : Int} (hp : L[k]? = some p) (h : numIn p.first p.objs.length a = some i) : leadsTo (L.drop k) k a = some (k, i) := by
  rw [drop_cons hp, leadsTo, h]
theorem leads_miss {L : List PL} {k : Nat} {p : PL} {a : Int} (hp : L[k]? = some p) (h : numIn p.first p.objs.length a = none) : leadsTo (L.drop k) k a = leadsTo (L.drop (k + 1)) (k + 1) a := by
  rw [drop_cons hp, leadsTo, h]
theorem numIn_none' {f : Int} {n : Nat} {a : Int} (h : ∀ i : Nat, i < n → a ≠ f + 2 * i) : numIn f n a = none := by
  cases hn : numIn f n a with
  | none => rfl
  | some i =>
    have := numIn_some.1 hn
    exact absurd this.2 (h i this.1)

set_option maxRecDepth 100000 in
set_option maxHeartbeats 4000000 in
theorem leaves_any {B : Nat} {w : World} {fb lb cb : Nat} {ls : List Lv} {L : List PL} (h : FromAt B w fb lb cb ls L) {a : Int} (ha : I64 a) :
    Calls Try.prog 36 #[.int .i64 a, .pointer (some ⟨fb, 0, none⟩)] w fun e w' => LeadPost ls L a w e w' := by
  have H := hide h
  have HA := hide ha
  have c := h.c
  have hfew := h.few
  have HLEN := hide h.len
  clear h ha
  go_enter Try.func36, Try.ntmps36
  go_wp2_with fail
  go_loopg [11] ls.length (fun gg i wr => ∃ k : Nat, k ≤ ls.length ∧ gg = ls.length - k ∧ i = .int .i64 k ∧ Hid (Below w.heap.size w wr ∧ leadsTo (L.drop k) k a = leadsTo L 0 a))
  case atStart => exact ⟨0, Nat.zero_le _, rfl, rfl, Below.refl _ _, rfl⟩
  case round =>
    obtain ⟨k, hk, rfl, rfl, HY⟩ := hrel
    by_cases hlk : k < ls.length
    · have hb : ls[k]? = some (ls[k]'hlk) := List.getElem?_eq_getElem _
      have hp : L[k]? = some (L[k]'(by have := unhide HLEN; omega)) := List.getElem?_eq_getElem _
      generalize (ls[k]'hlk) = b at *
      generalize (L[k]'(by have := unhide HLEN; omega)) = p at *
      have hH := (unhide H).keep (unhide HY).1
      have d0 := hH.at' k b hb
      have hv := hH.lvs k b p hb hp
      have d1 := hv.c0
      obtain ⟨go_, cap_, hvo⟩ := owns_form hv.pt.objs
      have d2 := hv.pt.c1
      rw [hvo] at d2
      have HV := hide hv
      have HD2 := hide d2
      have HBK := hide hb
      have HPK := hide hp
      have hk2 : (k : Int) < (ls.length : Int) := by omega
      clear hb hp hH hv hvo d2 c
      go_wp2_with fail
      refine (number_any (unhide HV).f0 (unhide HD2) (unhide HA) (unhide HV).lo (unhide HV).hi).mono ?_
      rintro e w1 ⟨q, ok, rfl, hb1, h1, h2⟩
      have HB1 := hide ((unhide HY).1.trans (hb1.mono (unhide HY).1.size))
      clear hb1 d0 d1
      cases ok with
      | true =>
        obtain ⟨i, hi, rfl, hai⟩ := h1 rfl
        have HI := hide (leads_hit (unhide HPK) (numIn_some.2 ⟨hi, hai⟩))
        clear h1 h2 hi hai
        go_wp2_with fail
        go_ret2
        refine ⟨?_, unhide HB1⟩
        rw [← (unhide HY).2, unhide HI]
        simp only [leadV, unhide HBK]
        rfl
      | false =>
        have HI := hide (leads_miss (unhide HPK) (numIn_none' (h2 rfl)))
        clear h1 h2
        go_wp2_with fail
        go_roundg (ls.length - (k + 1))
        case measure => omega
        case rel => exact ⟨k + 1, by omega, rfl, by go_num, unhide HB1, (unhide HI).symm.trans (unhide HY).2⟩
    · obtain rfl : k = ls.length := by omega
      have hff : decide ((ls.length : Int) < (ls.length : Int)) = false := by simp
      clear c hlk hk
      go_wp2_with fail
      go_ret2
      refine ⟨?_, (unhide HY).1⟩
      rw [← (unhide HY).2, leads_none (by have := unhide HLEN; omega)]
      rfl
end Go.Proofs.Ytddfdefgdlfpmaa

namespace Go.Proofs.Ytddfdefgdlfpmaa
open Go.RowKit

/-- A block's cells are of a type. -/
def Typ (w : World) (k : Nat) (t : TypeId) : Prop := ∃ cs fr, w.heap[k]? = some (.cells cs t fr)
theorem Typ.ne {w : World} {k k' : Nat} {t t' : TypeId} (h : Typ w k t) (h' : Typ w k' t') (hne : t ≠ t') : k ≠ k' := by
  rintro rfl
  obtain ⟨cs, fr, h1⟩ := h
  obtain ⟨cs', fr', h2⟩ := h'
  rw [h1] at h2
  cases h2
  exact hne rfl
theorem Typ.lt {w : World} {k : Nat} {t : TypeId} (h : Typ w k t) : k < w.heap.size := by
  obtain ⟨cs, fr, h1⟩ := h
  exact hlt h1
theorem Typ.move {w w' : World} {k : Nat} {t : TypeId} (h : Typ w k t) (hb : w'.heap[k]? = w.heap[k]?) : Typ w' k t := by
  obtain ⟨cs, fr, h1⟩ := h
  exact ⟨cs, fr, hb.trans h1⟩
theorem owns_ty {w : World} {B : Nat} {e : TypeId} {k : Nat} {v : Value} {n : Nat} {xs : List Value} (h : w.ownsRow B e k v n xs) {j : Nat} (hj : v.ownBlock = some j) : Typ w j e := by
  obtain ⟨_, _, cs, hc⟩ := owns_type h j hj
  exact ⟨cs, _, hc⟩
/-- A part's block: the heap's, or one of its own. -/
def partT (t : TypeId) : Prop := t = 51 ∨ t = 48
theorem partT_ne {t : TypeId} (h : partT t) : t ≠ 56 ∧ t ≠ 34 ∧ t ≠ 3 ∧ t ≠ 86 ∧ t ≠ 83 ∧ t ≠ 65 ∧ t ≠ 82 := by
  rcases h with rfl | rfl <;> decide
/-- A mover's blocks. -/
structure Mb where
  mv : Nat
  fb : Nat
  lb : Nat
  cb : Nat
  tb : Nat
  tp : Nat
  n : Nat
  ls : List Lv
structure MvAt (B : Nat) (w : World) (m : Mb) (M : MS) (cs : Array Value) (T : TypeId) (vto vtf : Value) : Prop where
  m0 : w.cell? ⟨m.mv, 0, none⟩ = some (.pointer (some ⟨m.tb, m.tp, none⟩))
  m1 : w.cell? ⟨m.mv, 1, none⟩ = some (.func (.func 36) #[] #[.pointer (some ⟨m.fb, 0, none⟩)])
  fr : FromAt B w m.fb m.lb m.cb m.ls M.L
  tpart : PtB B w m.tb m.tp cs T M.ft M.T vto vtf
  sz : m.tp + 2 < cs.size
  hB : B ≤ w.heap.size
  tT : partT T
  ymv : Typ w m.mv 86
  yfb : Typ w m.fb 83
  ylb : Typ w m.lb 65
  yl : ∀ b ∈ m.ls, Typ w b.l 82
  yp : ∀ b ∈ m.ls, ∃ t, partT t ∧ Typ w b.pb t
  hd : ∀ b ∈ m.ls, b.pb = m.tb → b.po + 2 < m.tp ∨ m.tp + 2 < b.po
  no : ∀ b ∈ m.ls, ∀ j, vto.ownBlock = some j → b.vo.ownBlock ≠ some j
  nf : ∀ b ∈ m.ls, ∀ j, vtf.ownBlock = some j → b.vf.ownBlock ≠ some j
  nw : ∀ (i j : Nat) (b b' : Lv), m.ls[i]? = some b → m.ls[j]? = some b' → i ≠ j → b.wb ≠ b'.wb
  szn : cs.size = m.n
/-- What a move leaves as it was. -/
structure FrM (m : Mb) (vto vtf : Value) (w w' : World) : Prop where
  os : w'.os = w.os
  tape : w'.tape = w.tape
  output : w'.output = w.output
  size : w.heap.size ≤ w'.heap.size
  block : ∀ k, k < w.heap.size → k ≠ m.tb → (∀ b ∈ m.ls, b.wb ≠ k) → vto.ownBlock ≠ some k → vtf.ownBlock ≠ some k → w'.heap[k]? = w.heap[k]?
  head : ∀ c, (c < m.tp + 1 ∨ m.tp + 2 < c) → w'.cell? ⟨m.tb, c, none⟩ = w.cell? ⟨m.tb, c, none⟩
theorem FrM.of_below {m : Mb} {vto vtf : Value} {w w' : World} (h : Below w.heap.size w w') (ht : m.tb < w.heap.size) : FrM m vto vtf w w' :=
  ⟨h.os, h.tape, h.output, h.size, fun k hk _ _ _ _ => h.block k hk, fun c _ => h.cell (p := ⟨m.tb, c, none⟩) ht⟩
theorem FrM.trans {m : Mb} {vto vtf vto' vtf' : Value} {w w' w'' : World} (h : FrM m vto vtf w w') (k : FrM m vto' vtf' w' w'')
    (ho : vto'.ownBlock = vto.ownBlock ∨ ∀ j, vto'.ownBlock = some j → w.heap.size ≤ j) (hf : vtf'.ownBlock = vtf.ownBlock ∨ ∀ j, vtf'.ownBlock = some j → w.heap.size ≤ j) : FrM m vto vtf w w'' :=
  ⟨k.os.trans h.os, k.tape.trans h.tape, k.output.trans h.output, Nat.le_trans h.size k.size, fun j hj h1 h2 h3 h4 => (k.block j (Nat.lt_of_lt_of_le hj h.size) h1 h2 (by
    rcases ho with e | e
    · rw [e]; exact h3
    · intro q; have := e j q; omega) (by
    rcases hf with e | e
    · rw [e]; exact h4
    · intro q; have := e j q; omega)).trans (h.block j hj h1 h2 h3 h4), fun c hc => (k.head c hc).trans (h.head c hc)⟩
section
variable {B : Nat} {w : World} {m : Mb} {M : MS} {cs : Array Value} {T : TypeId} {vto vtf : Value}
theorem MvAt.tb_ty (h : MvAt B w m M cs T vto vtf) : Typ w m.tb T := ⟨_, _, h.tpart.blk⟩
theorem MvAt.wb_ty (h : MvAt B w m M cs T vto vtf) {b : Lv} (hb : b ∈ m.ls) : Typ w b.wb 3 := by
  obtain ⟨j, hj⟩ := List.getElem?_of_mem hb
  have hl := (List.getElem?_eq_some_iff.1 hj).1
  rw [h.fr.len] at hl
  exact ⟨_, _, (h.fr.lvs j b _ hj (List.getElem?_eq_getElem hl)).wn⟩
theorem MvAt.keep {w' : World} (h : MvAt B w m M cs T vto vtf) (hb : Below w.heap.size w w') : MvAt B w' m M cs T vto vtf := by
  have kt : ∀ {k t}, Typ w k t → Typ w' k t := fun q => q.move (hb.block _ q.lt)
  exact ⟨cellk hb h.m0 (cell_lt h.m0), cellk hb h.m1 (cell_lt h.m1), h.fr.keep hb, ⟨(hb.block _ (hlt h.tpart.blk)).trans h.tpart.blk, h.tpart.e0, h.tpart.e1, h.tpart.e2, owns_keep h.tpart.objs hb, owns_keep h.tpart.flds hb, h.tpart.few, h.tpart.fewo, h.tpart.tO, h.tpart.tV⟩,
    h.sz, Nat.le_trans h.hB hb.size, h.tT, kt h.ymv, kt h.yfb, kt h.ylb, fun b q => kt (h.yl b q), fun b q => by obtain ⟨t, t1, t2⟩ := h.yp b q; exact ⟨t, t1, kt t2⟩, h.hd, h.no, h.nf, h.nw, h.szn⟩
end
end Go.Proofs.Ytddfdefgdlfpmaa

namespace Go.Proofs.Ytddfdefgdlfpmaa
open Go.RowKit

theorem set_far {cs : Array Value} {o c : Nat} {a b : Value} (h : c < o + 1 ∨ o + 2 < c) : ((cs.setIfInBounds (o + 1) a).setIfInBounds (o + 2) b)[c]? = cs[c]? := by
  rw [Array.getElem?_setIfInBounds, if_neg (by omega), Array.getElem?_setIfInBounds, if_neg (by omega)]
theorem setGone_at {L : List PL} {q : Nat × Nat} {a : Int} {j : Nat} {p : PL} (h : L[j]? = some p) : (setGone L q a)[j]? = some (if q.1 = j then { p with went := p.went.set q.2 a } else p) := by
  unfold setGone
  rw [List.getElem?_modify, h]
  split <;> rfl
theorem map_set_iv (l : List Int) (i : Nat) (a : Int) : ((l.set i a).map iv).toArray = (l.map iv).toArray.setIfInBounds i (iv a) := by
  rw [List.map_set]
  simp
theorem LvAt.other {B : Nat} {w w' : World} {b : Lv} {p : PL} (h : LvAt B w b p) (hl : w'.heap[b.l]? = w.heap[b.l]?) (hw : w'.heap[b.wb]? = w.heap[b.wb]?) (hp : ∀ c, c ≤ 2 → w'.cell? ⟨b.pb, b.po + c, none⟩ = w.cell? ⟨b.pb, b.po + c, none⟩)
    (ho : ∀ j, b.vo.ownBlock = some j → w'.heap[j]? = w.heap[j]?) (hf : ∀ j, b.vf.ownBlock = some j → w'.heap[j]? = w.heap[j]?) : LvAt B w' b p :=
  ⟨(World.cell?_of_block hl).trans h.c0, (World.cell?_of_block hl).trans h.c1, hw.trans h.wn, h.full, (hp 0 (by omega)).trans h.f0, ⟨(hp 1 (by omega)).trans h.pt.c1, (hp 2 (by omega)).trans h.pt.c2, owns_move h.pt.objs ho, owns_move h.pt.flds hf, h.pt.few⟩, h.lo, h.hi⟩
theorem move_mem {B : Nat} {w w' : World} {m : Mb} {M : MS} {cs : Array Value} {T : TypeId} {vto vtf : Value} (h : MvAt B w m M cs T vto vtf) {q : Nat × Nat} {b : Lv} {p : PL} {x : HO} (hb : m.ls[q.1]? = some b) (hp : M.L[q.1]? = some p)
    {vo' vf' : Value} (hP : PtB B w' m.tb m.tp ((cs.setIfInBounds (m.tp + 1) vo').setIfInBounds (m.tp + 2) vf') T M.ft (M.T ++ [{ x with noted := false }]) vo' vf') (hF : FrA m.tb vto vtf w w')
    (e1 : vo'.ownBlock = vto.ownBlock ∨ ∀ j, vo'.ownBlock = some j → w.heap.size ≤ j) (e2 : vf'.ownBlock = vtf.ownBlock ∨ ∀ j, vf'.ownBlock = some j → w.heap.size ≤ j) (a : Int) :
    MvAt B (w'.setCell ⟨b.wb, q.2, none⟩ (iv a)) m { M with T := M.T ++ [{ x with noted := false }], L := setGone M.L q a } ((cs.setIfInBounds (m.tp + 1) vo').setIfInBounds (m.tp + 2) vf') T vo' vf' ∧ FrM m vto vtf w (w'.setCell ⟨b.wb, q.2, none⟩ (iv a)) := by
  have hbm : b ∈ m.ls := List.mem_of_getElem? hb
  have hT := partT_ne h.tT
  have tbT := h.tb_ty
  have k1 : ∀ {k t}, Typ w k t → t ≠ T → t ≠ 56 → t ≠ 34 → w'.heap[k]? = w.heap[k]? := fun hk h1 h2 h3 =>
    hF.block _ hk.lt (hk.ne tbT h1) (fun e => (hk.ne (owns_ty h.tpart.objs e) h2) rfl) (fun e => (hk.ne (owns_ty h.tpart.flds e) h3) rfl)
  have wbT := h.wb_ty hbm
  have wbT' : Typ w' b.wb 3 := wbT.move (k1 wbT hT.2.2.1.symm (by decide) (by decide))
  have k2 : ∀ {k t}, Typ w k t → t ≠ T → t ≠ 56 → t ≠ 34 → t ≠ 3 → (w'.setCell ⟨b.wb, q.2, none⟩ (iv a)).heap[k]? = w.heap[k]? := fun hk h1 h2 h3 h4 =>
    (hother _ (hk.ne wbT h4)).trans (k1 hk h1 h2 h3)
  have tb' : ∀ c, (w'.setCell ⟨b.wb, q.2, none⟩ (iv a)).cell? ⟨m.tb, c, none⟩ = w'.cell? ⟨m.tb, c, none⟩ := fun c => World.cell?_of_block (hother _ (tbT.ne wbT hT.2.2.1))
  have head : ∀ c, (c < m.tp + 1 ∨ m.tp + 2 < c) → (w'.setCell ⟨b.wb, q.2, none⟩ (iv a)).cell? ⟨m.tb, c, none⟩ = w.cell? ⟨m.tb, c, none⟩ := fun c hc => by
    rw [tb', hcell hP.blk, hcell h.tpart.blk, set_far hc]
  have ymv := k2 h.ymv hT.2.2.2.1.symm (by decide) (by decide) (by decide)
  have yfb := k2 h.yfb hT.2.2.2.2.1.symm (by decide) (by decide) (by decide)
  have ylb := k2 h.ylb hT.2.2.2.2.2.1.symm (by decide) (by decide) (by decide)
  have yl : ∀ b' ∈ m.ls, (w'.setCell ⟨b.wb, q.2, none⟩ (iv a)).heap[b'.l]? = w.heap[b'.l]? := fun b' hb' => k2 (h.yl b' hb') hT.2.2.2.2.2.2.symm (by decide) (by decide) (by decide)
  have yo : ∀ b' ∈ m.ls, ∀ (p' : PL), LvAt B w b' p' → ∀ j, b'.vo.ownBlock = some j → (w'.setCell ⟨b.wb, q.2, none⟩ (iv a)).heap[j]? = w.heap[j]? := fun b' hb' p' hl j hj => by
    have ty := owns_ty hl.pt.objs hj
    rw [hother _ (ty.ne wbT (by decide))]
    exact hF.block _ ty.lt (ty.ne tbT hT.1.symm) (fun e => h.no b' hb' j e hj) (fun e => (ty.ne (owns_ty h.tpart.flds e) (by decide)) rfl)
  have yf : ∀ b' ∈ m.ls, ∀ (p' : PL), LvAt B w b' p' → ∀ j, b'.vf.ownBlock = some j → (w'.setCell ⟨b.wb, q.2, none⟩ (iv a)).heap[j]? = w.heap[j]? := fun b' hb' p' hl j hj => by
    have ty := owns_ty hl.pt.flds hj
    rw [hother _ (ty.ne wbT (by decide))]
    exact hF.block _ ty.lt (ty.ne tbT hT.2.1.symm) (fun e => (ty.ne (owns_ty h.tpart.objs e) (by decide)) rfl) (fun e => h.nf b' hb' j e hj)
  have yp : ∀ b' ∈ m.ls, ∀ c, c ≤ 2 → (w'.setCell ⟨b.wb, q.2, none⟩ (iv a)).cell? ⟨b'.pb, b'.po + c, none⟩ = w.cell? ⟨b'.pb, b'.po + c, none⟩ := fun b' hb' c hc => by
    by_cases e : b'.pb = m.tb
    · rw [e]
      exact head _ (by have := h.hd b' hb' e; omega)
    · obtain ⟨t, t1, t2⟩ := h.yp b' hb'
      have tn := partT_ne t1
      have : (w'.setCell ⟨b.wb, q.2, none⟩ (iv a)).heap[b'.pb]? = w.heap[b'.pb]? := by
        rw [hother _ (t2.ne wbT tn.2.2.1)]
        exact hF.block _ t2.lt e (fun e => (t2.ne (owns_ty h.tpart.objs e) tn.1) rfl) (fun e => (t2.ne (owns_ty h.tpart.flds e) tn.2.1) rfl)
      exact World.cell?_of_block this
  have keepT : ∀ {k t}, Typ w k t → (w'.setCell ⟨b.wb, q.2, none⟩ (iv a)).heap[k]? = w.heap[k]? → Typ (w'.setCell ⟨b.wb, q.2, none⟩ (iv a)) k t := fun hk e => hk.move e
  have szz : (w'.setCell ⟨b.wb, q.2, none⟩ (iv a)).heap.size = w'.heap.size := by simp [World.setCell]
  refine ⟨⟨(World.cell?_of_block ymv).trans h.m0, (World.cell?_of_block ymv).trans h.m1, ⟨(World.cell?_of_block yfb).trans h.fr.c, fun j b' hj => (World.cell?_of_block ylb).trans (h.fr.at' j b' hj), ?_, h.fr.few, ?_⟩, ?_, ?_, ?_, h.tT, keepT h.ymv ymv, keepT h.yfb yfb, keepT h.ylb ylb, fun b' hb' => keepT (h.yl b' hb') (yl b' hb'), ?_, h.hd, ?_, ?_, h.nw, by simpa using h.szn⟩, ⟨?_, ?_, ?_, ?_, ?_, head⟩⟩
  · show m.ls.length = (setGone M.L q a).length
    rw [h.fr.len]
    simp [setGone]
  · intro j b' p' hj hp'
    have hp' : (setGone M.L q a)[j]? = some p' := hp'
    have hb' := List.mem_of_getElem? hj
    have hlj : j < M.L.length := by have := (List.getElem?_eq_some_iff.1 hj).1; rw [h.fr.len] at this; exact this
    obtain ⟨p0, hp0⟩ : ∃ p0, M.L[j]? = some p0 := ⟨_, List.getElem?_eq_getElem hlj⟩
    rw [setGone_at hp0] at hp'
    have hl0 := h.fr.lvs j b' p0 hj hp0
    by_cases e : q.1 = j
    · subst e
      rw [if_pos rfl] at hp'
      cases hp'
      rw [hb] at hj
      cases hj
      rw [hp] at hp0
      cases hp0
      have hw1 : w'.heap[b.wb]? = some (.cells (p.went.map iv).toArray 3 (0, 0)) := (k1 wbT hT.2.2.1.symm (by decide) (by decide)).trans hl0.wn
      refine ⟨(World.cell?_of_block (yl b hbm)).trans hl0.c0, (World.cell?_of_block (yl b hbm)).trans hl0.c1, ?_, by simpa using hl0.full, (yp b hbm 0 (by omega)).trans hl0.f0, ⟨(yp b hbm 1 (by omega)).trans hl0.pt.c1, (yp b hbm 2 (by omega)).trans hl0.pt.c2, owns_move hl0.pt.objs (yo b hbm p hl0), owns_move hl0.pt.flds (yf b hbm p hl0), hl0.pt.few⟩, hl0.lo, hl0.hi⟩
      rw [hset hw1, map_set_iv]
    · rw [if_neg e] at hp'
      cases hp'
      refine hl0.other (yl b' hb') ?_ (yp b' hb') (yo b' hb' _ hl0) (yf b' hb' _ hl0)
      have wT := h.wb_ty hb'
      rw [hother _ (fun k => h.nw q.1 j b b' hb hj e k.symm)]
      exact k1 wT hT.2.2.1.symm (by decide) (by decide)
  · have mv : ∀ j, Typ w' j 56 ∨ Typ w' j 34 → (w'.setCell ⟨b.wb, q.2, none⟩ (iv a)).heap[j]? = w'.heap[j]? := fun j hj => by
      rcases hj with hj | hj
      · exact hother _ (hj.ne wbT' (by decide))
      · exact hother _ (hj.ne wbT' (by decide))
    have tbT' : Typ w' m.tb T := ⟨_, _, hP.blk⟩
    exact ⟨(hother _ (tbT'.ne wbT' hT.2.2.1)).trans hP.blk, hP.e0, hP.e1, hP.e2, owns_move hP.objs (fun j hj => mv j (Or.inl (owns_ty hP.objs hj))), owns_move hP.flds (fun j hj => mv j (Or.inr (owns_ty hP.flds hj))), hP.few, hP.fewo, hP.tO, hP.tV⟩
  · have := h.sz
    simpa using this
  · rw [szz]
    exact Nat.le_trans h.hB hF.size
  · intro b' hb'
    obtain ⟨t, t1, t2⟩ := h.yp b' hb'
    refine ⟨t, t1, ?_⟩
    by_cases e : b'.pb = m.tb
    · have et : t = T := by
        obtain ⟨c1, f1, g1⟩ := t2
        obtain ⟨c2, f2, g2⟩ := tbT
        rw [e, g2] at g1
        cases g1
        rfl
      subst et
      rw [e]
      exact ⟨_, _, (hother _ (tbT.ne wbT hT.2.2.1)).trans hP.blk⟩
    · have tn := partT_ne t1
      exact t2.move ((hother _ (t2.ne wbT tn.2.2.1)).trans (hF.block _ t2.lt e (fun e => (t2.ne (owns_ty h.tpart.objs e) tn.1) rfl) (fun e => (t2.ne (owns_ty h.tpart.flds e) tn.2.1) rfl)))
  · intro b' hb' j hj hv
    rcases e1 with e | e
    · exact h.no b' hb' j (e ▸ hj) hv
    · obtain ⟨i, hi⟩ := List.getElem?_of_mem hb'
      have hli : i < M.L.length := by have := (List.getElem?_eq_some_iff.1 hi).1; rw [h.fr.len] at this; exact this
      have := (owns_ty (h.fr.lvs i b' _ hi (List.getElem?_eq_getElem hli)).pt.objs hv).lt
      have := e j hj
      omega
  · intro b' hb' j hj hv
    rcases e2 with e | e
    · exact h.nf b' hb' j (e ▸ hj) hv
    · obtain ⟨i, hi⟩ := List.getElem?_of_mem hb'
      have hli : i < M.L.length := by have := (List.getElem?_eq_some_iff.1 hi).1; rw [h.fr.len] at this; exact this
      have := (owns_ty (h.fr.lvs i b' _ hi (List.getElem?_eq_getElem hli)).pt.flds hv).lt
      have := e j hj
      omega
  · exact hF.os
  · exact hF.tape
  · exact hF.output
  · rw [szz]; exact hF.size
  · intro k hk h1 h2 h3 h4
    rw [hother _ (fun e => h2 b hbm e.symm)]
    exact hF.block k hk h1 h3 h4
/-- Blocks of values that are none of its own may turn. -/
theorem MvAt.except {B : Nat} {w w' : World} {m : Mb} {M : MS} {cs : Array Value} {T : TypeId} {vto vtf : Value} (h : MvAt B w m M cs T vto vtf) (ks : Nat → Prop) (hsz : w.heap.size ≤ w'.heap.size) (hb : ∀ k, k < w.heap.size → ¬ ks k → w'.heap[k]? = w.heap[k]?) (hty : ∀ k, ks k → Typ w k 34)
    (hvf : ∀ j, vtf.ownBlock = some j → ¬ ks j) (hbf : ∀ b ∈ m.ls, ∀ j, b.vf.ownBlock = some j → ¬ ks j) : MvAt B w' m M cs T vto vtf := by
  have kt : ∀ {k t}, Typ w k t → t ≠ 34 → w'.heap[k]? = w.heap[k]? := fun hk hne => hb _ hk.lt (fun q => (hk.ne (hty _ q) hne) rfl)
  have hT := partT_ne h.tT
  have ymv := kt h.ymv (by decide)
  have yfb := kt h.yfb (by decide)
  have ylb := kt h.ylb (by decide)
  have yl : ∀ b ∈ m.ls, w'.heap[b.l]? = w.heap[b.l]? := fun b q => kt (h.yl b q) (by decide)
  have yp : ∀ b ∈ m.ls, w'.heap[b.pb]? = w.heap[b.pb]? := fun b q => by
    obtain ⟨t, t1, t2⟩ := h.yp b q
    exact kt t2 (partT_ne t1).2.1
  refine ⟨(World.cell?_of_block ymv).trans h.m0, (World.cell?_of_block ymv).trans h.m1, ⟨(World.cell?_of_block yfb).trans h.fr.c, fun j b hj => (World.cell?_of_block ylb).trans (h.fr.at' j b hj), h.fr.len, h.fr.few, fun j b p hj hp => ?_⟩, ?_, h.sz, Nat.le_trans h.hB hsz, h.tT, h.ymv.move ymv, h.yfb.move yfb, h.ylb.move ylb, fun b q => (h.yl b q).move (yl b q), fun b q => ?_, h.hd, h.no, h.nf, h.nw, h.szn⟩
  · have hbm := List.mem_of_getElem? hj
    have hl := h.fr.lvs j b p hj hp
    exact hl.other (yl b hbm) (kt (h.wb_ty hbm) (by decide)) (fun c _ => World.cell?_of_block (yp b hbm)) (fun k hk => kt (owns_ty hl.pt.objs hk) (by decide)) (fun k hk => hb k (owns_ty hl.pt.flds hk).lt (hbf b hbm k hk))
  · exact ⟨(kt h.tb_ty hT.2.1).trans h.tpart.blk, h.tpart.e0, h.tpart.e1, h.tpart.e2, owns_move h.tpart.objs (fun k hk => kt (owns_ty h.tpart.objs hk) (by decide)), owns_move h.tpart.flds (fun k hk => hb k (owns_ty h.tpart.flds hk).lt (hvf k hk)), h.tpart.few, h.tpart.fewo, h.tpart.tO, h.tpart.tV⟩
  · obtain ⟨t, t1, t2⟩ := h.yp b q
    exact ⟨t, t1, t2.move (yp b q)⟩
theorem FrM.later {m : Mb} {vto vtf : Value} {w w' w'' : World} (h : FrM m vto vtf w w') (hsz : w'.heap.size ≤ w''.heap.size) (ho : w''.os = w'.os) (ht : w''.tape = w'.tape) (hp : w''.output = w'.output) (htb : m.tb < w.heap.size) (hb : ∀ k, k < w.heap.size → w''.heap[k]? = w'.heap[k]?) : FrM m vto vtf w w'' :=
  ⟨ho.trans h.os, ht.trans h.tape, hp.trans h.output, Nat.le_trans h.size hsz, fun k hk h1 h2 h3 h4 => (hb k hk).trans (h.block k hk h1 h2 h3 h4), fun c hc => (World.cell?_of_block (hb m.tb htb)).trans (h.head c hc)⟩
/-- What stays where an object is laid behind the others. -/
theorem add_frame {B : Nat} {w w' : World} {m : Mb} {M : MS} {cs : Array Value} {T : TypeId} {vto vtf vo' vf' : Value} {l' : List HO} (h : MvAt B w m M cs T vto vtf) (hP : PtB B w' m.tb m.tp ((cs.setIfInBounds (m.tp + 1) vo').setIfInBounds (m.tp + 2) vf') T M.ft l' vo' vf') (hF : FrA m.tb vto vtf w w') {b : Lv} {p : PL} (hb : b ∈ m.ls) (hl : LvAt B w b p) :
    w'.heap[m.mv]? = w.heap[m.mv]? ∧ w'.heap[b.l]? = w.heap[b.l]? ∧ w'.heap[b.wb]? = w.heap[b.wb]? ∧ (∀ c, c ≤ 2 → w'.cell? ⟨b.pb, b.po + c, none⟩ = w.cell? ⟨b.pb, b.po + c, none⟩) ∧ (∀ j, b.vo.ownBlock = some j → w'.heap[j]? = w.heap[j]?) := by
  have hT := partT_ne h.tT
  have tbT := h.tb_ty
  have k1 : ∀ {k t}, Typ w k t → t ≠ T → t ≠ 56 → t ≠ 34 → w'.heap[k]? = w.heap[k]? := fun hk h1 h2 h3 =>
    hF.block _ hk.lt (hk.ne tbT h1) (fun e => (hk.ne (owns_ty h.tpart.objs e) h2) rfl) (fun e => (hk.ne (owns_ty h.tpart.flds e) h3) rfl)
  refine ⟨k1 h.ymv hT.2.2.2.1.symm (by decide) (by decide), k1 (h.yl b hb) hT.2.2.2.2.2.2.symm (by decide) (by decide), k1 (h.wb_ty hb) hT.2.2.1.symm (by decide) (by decide), fun c hc => ?_, fun j hj => ?_⟩
  · by_cases e : b.pb = m.tb
    · rw [e, hcell hP.blk, hcell h.tpart.blk, set_far (by have := h.hd b hb e; omega)]
    · obtain ⟨t, t1, t2⟩ := h.yp b hb
      have tn := partT_ne t1
      exact World.cell?_of_block (hF.block _ t2.lt e (fun e => (t2.ne (owns_ty h.tpart.objs e) tn.1) rfl) (fun e => (t2.ne (owns_ty h.tpart.flds e) tn.2.1) rfl))
  · have ty := owns_ty hl.pt.objs hj
    exact hF.block _ ty.lt (ty.ne tbT hT.1.symm) (fun e => h.no b hb j e hj) (fun e => (ty.ne (owns_ty h.tpart.flds e) (by decide)) rfl)
end Go.Proofs.Ytddfdefgdlfpmaa
