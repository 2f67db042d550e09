/-
  Heap.Major: walked.
-/
import Derived.Test.YtddfdefgdlfpmaaM13
namespace Go.Proofs.Ytddfdefgdlfpmaa
open Go.RowKit Go.Maps

/-- What leave makes. -/
structure LeftAt (X w' : World) (pb po n l wb : Nat) : Prop where
  below : Below X.heap.size X w'
  bw : w'.heap[wb]? = some (.cells ((List.replicate n (0 : Int)).map iv).toArray 3 (0, 0))
  bl : w'.heap[l]? = some (.cells #[.pointer (some ⟨pb, po, none⟩), .slice (some ⟨wb, 0, none⟩) n n] 82 (0, 0))
  gw : X.heap.size ≤ wb
  gl : X.heap.size ≤ l
theorem leave_ex {B : Nat} {X : World} {pb po : Nat} {l : List HO} {vo vf : Value} (h : PtAt B X pb po l vo vf) (hl : l.length ≤ 10000000) :
    Calls Try.prog 25 #[.pointer (some ⟨pb, po, none⟩)] X fun e w' => ∃ k wb, e = .returned (.pointer (some ⟨k, 0, none⟩)) ∧ Hid (LeftAt X w' pb po l.length k wb) :=
  (leave_any h hl).mono fun e w' ⟨he, hw⟩ => ⟨X.heap.size + 1, X.heap.size, he, by rw [hw]; exact ⟨leftW_below _ _ _ _, leftW_wb _ _ _ _, leftW_l _ _ _ _, Nat.le_refl _, by omega⟩⟩
/-- Both parts are to be left; the new one is there. -/
structure MajBeg (B : Nat) (w wc : World) (hp : Nat) (P : PHp) (vyo vyf voo vof : Value) (l0 wb0 l1 wb1 tb : Nat) : Prop where
  below : Below w.heap.size w wc
  y : LvAt B wc ⟨l0, hp, 0, wb0, vyo, vyf⟩ ⟨P.fy, P.Y, List.replicate P.Y.length 0⟩
  o : LvAt B wc ⟨l1, hp, 3, wb1, voo, vof⟩ ⟨P.fo, P.O, List.replicate P.O.length 0⟩
  t0 : Typ wc l0 82
  t1 : Typ wc l1 82
  w0 : w.heap.size ≤ wb0
  w1 : w.heap.size ≤ wb1
  nw : wb0 ≠ wb1
  bt : wc.heap[tb]? = some (.cells #[.int .i64 (P.fo + 2 * P.O.length), .slice none 0 0, .slice none 0 0] 48 (0, 0))
  tg : w.heap.size ≤ tb
theorem left_lv {B : Nat} {X X' xf : World} {pb po k wb : Nat} {l : List HO} {vo vf : Value} {f : Int} (h : LeftAt X X' pb po l.length k wb) (hb : Below X'.heap.size X' xf) (hp : PtAt B xf pb po l vo vf) (hf : xf.cell? ⟨pb, po, none⟩ = some (.int .i64 f)) (h0 : 0 ≤ f) (h1 : f + 2 * l.length ≤ 4611686018427387904) : LvAt B xf ⟨k, pb, po, wb, vo, vf⟩ ⟨f, l, List.replicate l.length 0⟩ := by
  have q1 := (hb.block k (hlt h.bl)).trans h.bl
  exact ⟨hcell q1 0, hcell q1 1, (hb.block wb (hlt h.bw)).trans h.bw, by simp, hf, hp, h0, h1⟩
theorem maj_beg {B : Nat} {w X0 X0' X1 X1' xf : World} {hp mb : Nat} {P : PHp} {D : DataW Unit} {n : Nat} {vyo vyf voo vof vn : Value} (h : HpG B w hp mb P D n vyo vyf voo vof vn) {l0 wb0 l1 wb1 tb : Nat} (a0 : LeftAt X0 X0' hp 0 P.Y.length l0 wb0) (b0 : Below w.heap.size w X0) (c0 : Below X0'.heap.size X0' xf) (a1 : LeftAt X1 X1' hp 3 P.O.length l1 wb1) (b1 : Below w.heap.size w X1) (c1 : Below X1'.heap.size X1' xf) (hs : X0'.heap.size ≤ X1.heap.size)
    (ht : xf.heap[tb]? = some (.cells #[.int .i64 0, .slice none 0 0, .slice none 0 0] 48 (0, 0))) (hx : Below w.heap.size w xf) (hg : w.heap.size ≤ tb) :
    MajBeg B w (((xf.setCell ⟨tb, 0, none⟩ (.int .i64 (P.fo + 2 * P.O.length))).setCell ⟨tb, 1, none⟩ (.slice none 0 0)).setCell ⟨tb, 2, none⟩ (.slice none 0 0)) hp P vyo vyf voo vof l0 wb0 l1 wb1 tb := by
  have hG := h.keep hx
  have tT : Typ xf tb 48 := ⟨_, _, ht⟩
  have oth : ∀ k, k ≠ tb → (((xf.setCell ⟨tb, 0, none⟩ (.int .i64 (P.fo + 2 * P.O.length))).setCell ⟨tb, 1, none⟩ (.slice none 0 0)).setCell ⟨tb, 2, none⟩ (.slice none 0 0)).heap[k]? = xf.heap[k]? := fun k hk => by rw [hother _ hk, hother _ hk, hother _ hk]
  have kt : ∀ {k t}, Typ xf k t → t ≠ 48 → (((xf.setCell ⟨tb, 0, none⟩ (.int .i64 (P.fo + 2 * P.O.length))).setCell ⟨tb, 1, none⟩ (.slice none 0 0)).setCell ⟨tb, 2, none⟩ (.slice none 0 0)).heap[k]? = xf.heap[k]? := fun hk hne => oth _ (hk.ne tT hne)
  have tl0 : Typ xf l0 82 := ⟨_, _, (c0.block l0 (hlt a0.bl)).trans a0.bl⟩
  have tl1 : Typ xf l1 82 := ⟨_, _, (c1.block l1 (hlt a1.bl)).trans a1.bl⟩
  have tw0 : Typ xf wb0 3 := ⟨_, _, (c0.block wb0 (hlt a0.bw)).trans a0.bw⟩
  have tw1 : Typ xf wb1 3 := ⟨_, _, (c1.block wb1 (hlt a1.bw)).trans a1.bw⟩
  have tH : Typ xf hp 51 := ⟨_, _, hG.at'.blk⟩
  have y := left_lv a0 c0 (hG.at'.young hG.few) (hcell hG.at'.blk 0) hG.small.y0 hG.small.y1
  have o := left_lv a1 c1 (hG.at'.old hG.few) (hcell hG.at'.blk 3) hG.small.o0 hG.small.o1
  refine ⟨((hx.setCell hg _).setCell hg _).setCell hg _, y.other (kt tl0 (by decide)) (kt tw0 (by decide)) (fun c _ => World.cell?_of_block (kt tH (by decide))) (fun j hj => kt (owns_ty y.pt.objs hj) (by decide)) (fun j hj => kt (owns_ty y.pt.flds hj) (by decide)), o.other (kt tl1 (by decide)) (kt tw1 (by decide)) (fun c _ => World.cell?_of_block (kt tH (by decide))) (fun j hj => kt (owns_ty o.pt.objs hj) (by decide)) (fun j hj => kt (owns_ty o.pt.flds hj) (by decide)), tl0.move (kt tl0 (by decide)), tl1.move (kt tl1 (by decide)), Nat.le_trans b0.size a0.gw, Nat.le_trans b1.size a1.gw, ?_, set3 ht _ _ _, hg⟩
  have := hlt a0.bw
  have := a1.gw
  omega

/-- The world once what takes objects is made. -/
def majW (wc : World) (tb l0 l1 : Nat) : World := moverW (wc.alloc (.cells #[.pointer (some ⟨l0, 0, none⟩), .pointer (some ⟨l1, 0, none⟩)] 65)) tb 0 wc.heap.size 2 2
def majB (wc : World) (hp tb l0 wb0 l1 wb1 : Nat) (vyo vyf voo vof : Value) : Mb := ⟨wc.heap.size + 2, wc.heap.size + 1, wc.heap.size, 2, tb, 0, 3, [⟨l0, hp, 0, wb0, vyo, vyf⟩, ⟨l1, hp, 3, wb1, voo, vof⟩]⟩
theorem majW_below (wc : World) (tb l0 l1 : Nat) : Below wc.heap.size wc (majW wc tb l0 l1) := by
  have h2 : Below wc.heap.size wc (wc.alloc (.cells #[.pointer (some ⟨l0, 0, none⟩), .pointer (some ⟨l1, 0, none⟩)] 65)) := (Below.refl _ _).alloc (Nat.le_refl _) _
  exact h2.trans ((moverW_below _ _ _ _ _ _).mono h2.size)
theorem two_mem {P : Lv → Prop} {a b : Lv} (ha : P a) (hb : P b) : ∀ x ∈ [a, b], P x := by
  intro x hx
  simp at hx
  rcases hx with rfl | rfl
  · exact ha
  · exact hb
theorem major_begin {B : Nat} {w wc : World} {hp mb : Nat} {P : PHp} {D : DataW Unit} {n : Nat} {vyo vyf voo vof vn : Value} (h : HpG B w hp mb P D n vyo vyf voo vof vn) {l0 wb0 l1 wb1 tb : Nat} (q : MajBeg B w wc hp P vyo vyf voo vof l0 wb0 l1 wb1 tb) :
    MvAt B (majW wc tb l0 l1) (majB wc hp tb l0 wb0 l1 wb1 vyo vyf voo vof) (majM P) #[.int .i64 (P.fo + 2 * P.O.length), .slice none 0 0, .slice none 0 0] 48 (.slice none 0 0) (.slice none 0 0) := by
  have hb := majW_below wc tb l0 l1
  have hG := (h.keep q.below).keep hb
  have z2 : (wc.alloc (.cells #[.pointer (some ⟨l0, 0, none⟩), .pointer (some ⟨l1, 0, none⟩)] 65)).heap.size = wc.heap.size + 1 := by simp
  have kfb : (majW wc tb l0 l1).heap[wc.heap.size + 1]? = some (.cells #[.slice (some ⟨wc.heap.size, 0, none⟩) 2 2] 83 (0, 0)) := by
    have := moverW_fb (wc.alloc (.cells #[.pointer (some ⟨l0, 0, none⟩), .pointer (some ⟨l1, 0, none⟩)] 65)) tb 0 wc.heap.size 2 2
    rw [z2] at this
    exact this
  have kmv : (majW wc tb l0 l1).heap[wc.heap.size + 2]? = some (.cells #[.pointer (some ⟨tb, 0, none⟩), .func (.func 36) #[] #[.pointer (some ⟨wc.heap.size + 1, 0, none⟩)]] 86 (0, 0)) := by
    have := moverW_mv (wc.alloc (.cells #[.pointer (some ⟨l0, 0, none⟩), .pointer (some ⟨l1, 0, none⟩)] 65)) tb 0 wc.heap.size 2 2
    rw [z2] at this
    exact this
  have klb : (majW wc tb l0 l1).heap[wc.heap.size]? = some (.cells #[.pointer (some ⟨l0, 0, none⟩), .pointer (some ⟨l1, 0, none⟩)] 65 (0, 0)) :=
    ((moverW_below _ tb 0 wc.heap.size 2 2).block wc.heap.size (by rw [z2]; omega)).trans (hnew wc _)
  have kt : ∀ {k t}, Typ wc k t → Typ (majW wc tb l0 l1) k t := fun z => z.move (hb.block _ z.lt)
  have y := q.y.keep hb
  have o := q.o.keep hb
  have tH : Typ (majW wc tb l0 l1) hp 51 := ⟨_, _, hG.at'.blk⟩
  have tP : Typ (majW wc tb l0 l1) tb 48 := kt ⟨_, _, q.bt⟩
  have hne : hp ≠ tb := tH.ne tP (by decide)
  refine ⟨hcell kmv 0, hcell kmv 1, ⟨hcell kfb 0, fun j b hj => ?_, rfl, by simp [majB], fun j b p hj hp' => ?_⟩, ⟨(hb.block tb (hlt q.bt)).trans q.bt, rfl, rfl, rfl, World.ownsRow_nil _ _ _ _, World.ownsRow_nil _ _ _ _, by simp [majM, allF], by simp [majM], by decide, by decide⟩, by simp [majB], Nat.le_trans hG.hB (Nat.le_refl _), Or.inr rfl, ⟨_, _, kmv⟩, ⟨_, _, kfb⟩, ⟨_, _, klb⟩, two_mem (kt q.t0) (kt q.t1), two_mem ⟨_, Or.inl rfl, tH⟩ ⟨_, Or.inl rfl, tH⟩, two_mem (fun e => absurd e hne) (fun e => absurd e hne), fun b _ j hj => (by cases hj), fun b _ j hj => (by cases hj), fun i j b b' hi hj hne' => ?_, rfl⟩
  · match j with
    | 0 => simp [majB] at hj; subst hj; exact hcell klb 0
    | 1 => simp [majB] at hj; subst hj; exact hcell klb 1
    | j + 2 => simp [majB] at hj
  · match j with
    | 0 => simp [majB] at hj; simp [majM] at hp'; subst hj; subst hp'; exact y
    | 1 => simp [majB] at hj; simp [majM] at hp'; subst hj; subst hp'; exact o
    | j + 2 => simp [majB] at hj
  · match i, j with
    | 0, 0 => exact absurd rfl hne'
    | 1, 1 => exact absurd rfl hne'
    | 0, 1 => simp [majB] at hi hj; subst hi; subst hj; exact q.nw
    | 1, 0 => simp [majB] at hi hj; subst hi; subst hj; exact fun e => q.nw e.symm
    | 0, j + 2 => simp [majB] at hj
    | 1, j + 2 => simp [majB] at hj
    | i + 2, _ => simp [majB] at hi
/-- What was there ahead of a Major is not turned by its moves. -/
theorem maj_outk {B : Nat} {w wc w4 : World} {hp : Nat} {P : PHp} {vyo vyf voo vof : Value} {l0 wb0 l1 wb1 tb : Nat} (q : MajBeg B w wc hp P vyo vyf voo vof l0 wb0 l1 wb1 tb) (hs : wc.heap.size ≤ w4.heap.size) {k : Nat} (hk : k < w.heap.size) : Out (majB wc hp tb l0 wb0 l1 wb1 vyo vyf voo vof) (.slice none 0 0) (.slice none 0 0) w4 k :=
  ⟨by have := q.below.size; omega, fun e => by
    have e : k = tb := e
    have := q.tg
    omega, two_mem (fun e => by
    have e : wb0 = k := e
    have := q.w0
    omega) (fun e => by
    have e : wb1 = k := e
    have := q.w1
    omega), fun e => (by cases e), fun e => (by cases e)⟩
theorem maj_fit {B : Nat} {w wc w4 : World} {hp mb : Nat} {P : PHp} {vyo vyf voo vof : Value} {l0 wb0 l1 wb1 tb : Nat} (q : MajBeg B w wc hp P vyo vyf voo vof l0 wb0 l1 wb1 tb) (hs : wc.heap.size ≤ w4.heap.size) (hb : Below w.heap.size w w4) {g : Option Addr} {l : List (Option (Nat × Nat × HV))} (hr : RtFree w hp mb vyo vyf voo vof g l) :
    RtFit (majB wc hp tb l0 wb0 l1 wb1 vyo vyf voo vof) (.slice none 0 0) (.slice none 0 0) w4 g l :=
  ⟨⟨fun gb go e h0 => maj_outk q hs (hr.gt gb go e h0).lt, fun rb ro v hv => by obtain ⟨cs, hc⟩ := hr.ty rb ro v hv; exact maj_outk q hs (hlt hc)⟩, fun rb ro v hv => by obtain ⟨cs, hc⟩ := (hr.keep hb).ty rb ro v hv; exact ⟨_, _, hc⟩, two_mem (fun rb ro v hv => (hr.nf rb ro v hv).1) (fun rb ro v hv => (hr.nf rb ro v hv).2), (hr.keep hb).gt, hr.ap, (hr.keep hb).ty⟩

theorem pot_rest : ∀ (f : Nat) {k0 s : Nat} {M : MS}, MInv k0 s M → Go.Proofs.Ytddfdefgdlfpmaa.pot (restM f M s) = Go.Proofs.Ytddfdefgdlfpmaa.pot M
  | 0, _, _, _, _ => rfl
  | f + 1, k0, s, M, h => by
    rw [restM]
    split
    · rename_i hlt
      exact (pot_rest f (h.field hlt).1).trans (pot_field h s)
    · rfl
theorem cnt_field {k0 s : Nat} {M : MS} (h : MInv k0 s M) (i : Nat) : Go.Proofs.Ytddfdefgdlfpmaa.cnt (fieldM M i) = Go.Proofs.Ytddfdefgdlfpmaa.cnt M := by
  cases hv : (allF M.T)[i]? with
  | none => unfold fieldM; rw [hv]
  | some v =>
    rw [fieldM_some hv, ← cnt_move h.full h.ft v]
    unfold Go.Proofs.Ytddfdefgdlfpmaa.cnt
    show (setF _ _ _).length + _ = _
    rw [setF_len]
theorem cnt_rest : ∀ (f : Nat) {k0 s : Nat} {M : MS}, MInv k0 s M → Go.Proofs.Ytddfdefgdlfpmaa.cnt (restM f M s) = Go.Proofs.Ytddfdefgdlfpmaa.cnt M
  | 0, _, _, _, _ => rfl
  | f + 1, k0, s, M, h => by
    rw [restM]
    split
    · rename_i hlt
      exact (cnt_rest f (h.field hlt).1).trans (cnt_field h s)
    · rfl
theorem cnt_roots {k0 s : Nat} : ∀ (l : List HV) {M : MS}, MInv k0 s M → Go.Proofs.Ytddfdefgdlfpmaa.cnt (rootsM M l) = Go.Proofs.Ytddfdefgdlfpmaa.cnt M
  | [], _, _ => rfl
  | v :: l, _, h => (cnt_roots l (h.move v).1).trans (cnt_move h.full h.ft v)
theorem maj_cnt (P : PHp) : Go.Proofs.Ytddfdefgdlfpmaa.cnt (majM P) = P.Y.length + P.O.length ∧ Go.Proofs.Ytddfdefgdlfpmaa.pot (majM P) = (allF P.Y).length + (allF P.O).length := by
  constructor
  · unfold Go.Proofs.Ytddfdefgdlfpmaa.cnt
    rw [restW_fresh _ (maj_fresh P)]
    simp [majM, sum_one]
  · unfold Go.Proofs.Ytddfdefgdlfpmaa.pot restOf
    rw [restW_fresh _ (maj_fresh P)]
    simp only [majM, List.map_cons, List.map_nil, List.sum_cons, List.sum_nil, sum_fs]
    simp [allF]
/-- The heap behind a Major. -/
def majP (P : PHp) (T : List HO) (mj : Int) : PHp := { P with fy := P.fy + 2 * P.Y.length, Y := [], fo := P.fo + 2 * P.O.length, O := T, noted := [], majors := mj }
/-- What comes of a Major. -/
def MajorPost (B : Nat) (P : PHp) (D : DataW Unit) (n hp mb : Nat) (g : Option Addr) (l : List (Option (Nat × Nat × HV))) (w w' : World) : Prop :=
  ∃ (M : MS) (n' : Nat) (vto' vtf' : Value) (mj : Int), MInv 0 (allF M.T).length M ∧ Cap M ∧ Later (majM P).L M.L ∧ M.ft = P.fo + 2 * P.O.length ∧ M = restM (Go.Proofs.Ytddfdefgdlfpmaa.pot (rootsM (majM P) (rootVs l))) (rootsM (majM P) (rootVs l)) 0 ∧ (∀ rb ro v, some (rb, ro, v) ∈ l → Went M.L v) ∧
    RtNow M w' g l l.length ∧ HpAt B w' hp mb (majP P M.T mj) (.slice none 0 0) (.slice none 0 0) vto' vtf' (.slice none 0 0) ∧ w'.ownsMap Try.prog 3 (plainElem Try.prog 3) mb n' (idsAll D M.L) ∧ n' ≤ n + (P.Y.length + P.O.length) ∧
    (∀ j, vto'.ownBlock = some j → w.heap.size ≤ j) ∧ (∀ j, vtf'.ownBlock = some j → w.heap.size ≤ j) ∧
    (∀ k, k < w.heap.size → k ≠ hp → k ≠ mb → ¬ rootB l k → w'.heap[k]? = w.heap[k]?) ∧ w.heap.size ≤ w'.heap.size ∧ w'.os = w.os ∧ w'.tape = w.tape ∧ w'.output = w.output
theorem own_new {v' v'' : Value} {a b c : Nat} (h1 : v'.ownBlock = (Value.slice none 0 0).ownBlock ∨ ∀ j, v'.ownBlock = some j → a ≤ j) (h2 : v''.ownBlock = v'.ownBlock ∨ ∀ j, v''.ownBlock = some j → b ≤ j) (ha : c ≤ a) (hb : c ≤ b) : ∀ j, v''.ownBlock = some j → c ≤ j := fun j hj => by
  rcases h2 with e | e
  · rw [e] at hj
    rcases h1 with q | q
    · rw [q] at hj
      cases hj
    · have := q j hj
      omega
  · have := e j hj
    omega
/-- What the roots are, seen from the last world. -/
theorem maj_rt {M : MS} {w wl wz : World} {hp mb : Nat} {vyo vyf voo vof : Value} {g : Option Addr} {l : List (Option (Nat × Nat × HV))} (hS : RtNow M wl g l l.length) (hr : RtFree w hp mb vyo vyf voo vof g l) (kz : ∀ k t, Typ w k t → t ≠ 51 → wz.heap[k]? = wl.heap[k]?) : RtNow M wz g l l.length := by
  refine ⟨fun k r hk => ?_, fun rb ro v hv => ?_, fun rb ro v hv => ?_⟩
  · obtain ⟨gb, go, e, hc⟩ := hS.at' k r hk
    have ht := hr.gt gb go e (Nat.lt_of_le_of_lt (Nat.zero_le _) (List.getElem?_eq_some_iff.1 hk).1)
    exact ⟨gb, go, e, (World.cell?_of_block (a := ⟨gb, go + k, none⟩) (kz gb _ ht (by decide))).trans hc⟩
  · obtain ⟨cs9, hc9⟩ := hr.ty rb ro v hv
    have q := kz rb _ ⟨_, _, hc9⟩ (by decide)
    obtain ⟨x, y, z⟩ := hS.val rb ro v hv
    exact ⟨(World.cell?_of_block (a := ⟨rb, ro, none⟩) q).trans x, (World.cell?_of_block (a := ⟨rb, ro + 1, none⟩) q).trans y, (World.cell?_of_block (a := ⟨rb, ro + 2, none⟩) q).trans z⟩
  · obtain ⟨cs9, hc9⟩ := hr.ty rb ro v hv
    obtain ⟨c, hc⟩ := hS.fz rb ro v hv
    exact ⟨c, (kz rb _ ⟨_, _, hc9⟩ (by decide)).trans hc⟩
theorem maj_cells {P : PHp} {T : List HO} {vyo vyf voo vof vn vt vf : Value} {mb : Nat} {ft f0 : Int} (h0 : f0 = P.fy + 2 * P.Y.length) (h3 : ft = P.fo + 2 * P.O.length) {cs : Array Value} (hcs : cs = ((((((hpCells P vyo vyf voo vof vn mb).setIfInBounds 0 (.int .i64 f0)).setIfInBounds 1 (.slice none 0 0)).setIfInBounds 2 (.slice none 0 0)).setIfInBounds 8 (.slice none 0 0)))) (mj : Int) :
    (((cs.setIfInBounds 3 (.int .i64 ft)).setIfInBounds 4 vt).setIfInBounds 5 vf).setIfInBounds 12 (.int .i64 mj) = hpCells (majP P T mj) (.slice none 0 0) (.slice none 0 0) vt vf (.slice none 0 0) mb := by
  subst hcs h0 h3
  refine size13 (by simp [hpCells]) rfl (fun c hc => ?_)
  match c, hc with
  | 0, _ => simp [hpCells, majP]
  | 1, _ => simp [hpCells, majP]
  | 2, _ => simp [hpCells, majP]
  | 3, _ => simp [hpCells, majP]
  | 4, _ => simp [hpCells, majP]
  | 5, _ => simp [hpCells, majP]
  | 6, _ => simp [hpCells, majP]
  | 7, _ => simp [hpCells, majP]
  | 8, _ => simp [hpCells, majP]
  | 9, _ => simp [hpCells, majP]
  | 10, _ => simp [hpCells, majP]
  | 11, _ => simp [hpCells, majP]
  | 12, _ => simp [hpCells, majP]
/-- What settle asks of the heap. -/
theorem maj_st {B : Nat} {w wc w4 w6 w7 w8 : World} {hp mb : Nat} {P : PHp} {D : DataW Unit} {n : Nat} {vyo vyf voo vof vn vt6 vf6 : Value} {M6 : MS} {cs6 : Array Value} {l0 wb0 l1 wb1 tb : Nat} (hG : HpG B w hp mb P D n vyo vyf voo vof vn) (q : MajBeg B w wc hp P vyo vyf voo vof l0 wb0 l1 wb1 tb) (hbc : Below wc.heap.size wc w4) {g : Option Addr} {l : List (Option (Nat × Nat × HV))} (hr : RtFree w hp mb vyo vyf voo vof g l)
    (hF : FrM (majB wc hp tb l0 wb0 l1 wb1 vyo vyf voo vof) (.slice none 0 0) (.slice none 0 0) w4 w6) (hM6 : MvAt B w6 (majB wc hp tb l0 wb0 l1 wb1 vyo vyf voo vof) M6 cs6 48 vt6 vf6) (a6 : vt6.ownBlock = (Value.slice none 0 0).ownBlock ∨ ∀ j, vt6.ownBlock = some j → w4.heap.size ≤ j) (b6 : vf6.ownBlock = (Value.slice none 0 0).ownBlock ∨ ∀ j, vf6.ownBlock = some j → w4.heap.size ≤ j)
    (h67 : Below w6.heap.size w6 w7) (hw8 : w8 = w7.alloc (.cells #[.pointer (some ⟨l0, 0, none⟩), .pointer (some ⟨l1, 0, none⟩)] 65)) : ∃ p0 p1, M6.L = [p0, p1] ∧ p0.first = P.fy ∧ p0.objs.length = P.Y.length ∧ p1.objs.length = P.O.length ∧ StAt w8 (majB wc hp tb l0 wb0 l1 wb1 vyo vyf voo vof) M6 vt6 vf6 hp mb w7.heap.size ⟨l0, hp, 0, wb0, vyo, vyf⟩ p0 l n D := by
  have h78 : Below w7.heap.size w7 w8 := by rw [hw8]; exact (Below.refl _ _).alloc (Nat.le_refl _) _
  have h68 : Below w6.heap.size w6 w8 := h67.trans (h78.mono h67.size)
  have hs8 : w8.heap.size = w7.heap.size + 1 := by rw [hw8]; simp
  have z1 := q.below.size
  have z2 := hbc.size
  have z3 := hF.size
  have z4 := h67.size
  have hb4 : Below w.heap.size w w4 := q.below.trans (hbc.mono z1)
  have up : ∀ k, k < w.heap.size → w8.heap[k]? = w.heap[k]? := fun k hk => by
    rw [h68.block k (by omega), (maj_outk q z2 hk).same hF]
    exact hb4.block k hk
  have ou : ∀ k, k < w.heap.size → Out (majB wc hp tb l0 wb0 l1 wb1 vyo vyf voo vof) vt6 vf6 w8 k := fun k hk => ((maj_outk q z2 hk).later z3 a6 b6).later h68.size (Or.inl rfl) (Or.inl rfl)
  have tH : Typ w hp 51 := ⟨_, _, hG.at'.blk⟩
  obtain ⟨es, cl, hm, hrest⟩ := hG.own
  have hrt : ∀ k, rootB l k → Typ w k 34 := fun k ⟨ro, v, hv⟩ => by
    obtain ⟨cs, hc⟩ := hr.ty k ro v hv
    exact ⟨_, _, hc⟩
  have hlen := hM6.fr.len
  obtain ⟨p0, p1, hp0⟩ : ∃ p0 p1, M6.L = [p0, p1] := by
    match hL : M6.L, hlen with
    | [a, b], _ => exact ⟨a, b, rfl⟩
    | [], z => simp [majB] at z
    | [_], z => simp [majB] at z
    | _ :: _ :: _ :: _, z => simp [majB] at z
  have lv := hM6.fr.lvs 0 ⟨l0, hp, 0, wb0, vyo, vyf⟩ p0 rfl (by rw [hp0]; rfl)
  have lo := hM6.fr.lvs 1 ⟨l1, hp, 3, wb1, voo, vof⟩ p1 rfl (by rw [hp0]; rfl)
  have e6 : w6.heap[hp]? = w.heap[hp]? := ((maj_outk q z2 tH.lt).same hF).trans (hb4.block hp tH.lt)
  refine ⟨p0, p1, hp0, ?_, ?_, ?_, ⟨?_, ⟨es, cl, (up mb (hlt hm)).trans hm, hrest⟩, ou mb (hlt hm), fun z => not_map hm (hrt mb z) rfl, ?_, ?_, ?_, Or.inr (ou hp tH.lt), fun z => ((hrt hp z).ne tH (by decide)) rfl, ?_, ?_, rfl, by rw [hp0]; rfl, ⟨rfl, rfl⟩⟩⟩
  · have e1 : w6.cell? ⟨hp, 0, none⟩ = some (.int .i64 p0.first) := lv.f0
    rw [World.cell?_of_block e6, hcell hG.at'.blk] at e1
    have e2 : some (Value.int .i64 P.fy) = some (.int .i64 p0.first) := e1
    simpa using e2.symm
  · obtain ⟨g1, c1, q1⟩ := owns_form lv.pt.objs
    obtain ⟨g2, c2, q2⟩ := owns_form hG.at'.yo
    have q1 : vyo = .slice g1 p0.objs.length c1 := q1
    rw [q2] at q1
    simp only [Value.slice.injEq] at q1
    exact q1.2.1.symm
  · obtain ⟨g1, c1, q1⟩ := owns_form lo.pt.objs
    obtain ⟨g2, c2, q2⟩ := owns_form hG.at'.oo
    have q1 : voo = .slice g1 p1.objs.length c1 := q1
    rw [q2] at q1
    simp only [Value.slice.injEq] at q1
    exact q1.2.1.symm
  · rw [World.cell?_of_block (up hp tH.lt)]
    exact hcell hG.at'.blk 9
  · refine ⟨by omega, fun e => ?_, fun b hb' e => ?_, fun e => ?_, fun e => ?_⟩
    · have := hM6.tb_ty.lt
      omega
    · have := (hM6.wb_ty hb').lt
      omega
    · have := (owns_ty hM6.tpart.objs e).lt
      omega
    · have := (owns_ty hM6.tpart.flds e).lt
      omega
  · intro z
    have := (hrt _ z).lt
    omega
  · intro j b hj
    rw [hw8]
    match j with
    | 0 => simp [majB] at hj; subst hj; exact hcell (hnew _ _) 0
    | 1 => simp [majB] at hj; subst hj; exact hcell (hnew _ _) 1
    | j + 2 => simp [majB] at hj
  · exact ⟨_, _, (up hp tH.lt).trans hG.at'.blk, by simp [hpCells]⟩
  · intro e
    have e : hp = tb := e
    have := tH.lt
    have := q.tg
    omega

set_option maxRecDepth 100000 in
set_option maxHeartbeats 16000000 in
theorem major_any {B : Nat} {w : World} {hp mb : Nat} {P : PHp} {D : DataW Unit} {n : Nat} {vyo vyf voo vof vn : Value} (h : HpG B w hp mb P D n vyo vyf voo vof vn) {g : Option Addr} {l : List (Option (Nat × Nat × HV))} (hr : RtFree w hp mb vyo vyf voo vof g l) (cap : Nat) (hnn : n ≤ 500000000) (hroom : ((P.Y.length + (allF P.Y).length + (P.O.length + (allF P.O).length) : Nat) : Int) ≤ P.ro) :
    Calls Try.prog 12 #[.pointer (some ⟨hp, 0, none⟩), .slice g l.length cap] w fun e w' => e = .returned .nilIface ∧ MajorPost B P D n hp mb g l w w' := by
  have H := hide h
  have HR := hide hr
  have HPY := hide (h.at'.young h.few)
  have HPO := hide (h.at'.old h.few)
  have HFO := hide (show w.cell? ⟨hp, 3, none⟩ = some (.int .i64 P.fo) from hcell h.at'.blk 3)
  have hly : P.Y.length ≤ 10000000 := by have := h.cnt; omega
  have hlo : P.O.length ≤ 10000000 := by have := h.cnt; omega
  have hfo0 : 0 ≤ P.fo := h.small.o0
  have hfo1 := h.small.o1
  have ent0 : ∀ w : World, Sem.run Try.prog (callFunc 25 #[.pointer (some ⟨hp, 0, none⟩)]) w = .ok (.enter 25 #[.pointer (some ⟨hp, 0, none⟩)]) w := fun _ => by kernel_rfl
  have ent3 : ∀ w : World, Sem.run Try.prog (callFunc 25 #[.pointer (some ⟨hp, 3, none⟩)]) w = .ok (.enter 25 #[.pointer (some ⟨hp, 3, none⟩)]) w := fun _ => by kernel_rfl
  have entn : ∀ w : World, Sem.run Try.prog (callFunc 31 #[.pointer (some ⟨hp, 3, none⟩)]) w = .ok (.enter 31 #[.pointer (some ⟨hp, 3, none⟩)]) w := fun _ => by kernel_rfl
  clear h hr
  go_enter Try.func12, Try.ntmps12
  go_wp2_with fail
  go_cut [5, 6, 7] (fun p q r wc => ∃ l0 l1 tb wb0 wb1, p = .pointer (some ⟨l0, 0, none⟩) ∧ q = .pointer (some ⟨l1, 0, none⟩) ∧ r = .pointer (some ⟨tb, 0, none⟩) ∧ MajBeg B w wc hp P vyo vyf voo vof l0 wb0 l1 wb1 tb)
  case first =>
    refine wp_region_held_drew (S := fun _ => True) (by kernel_rfl) trivial (fun hHeld => ?_)
    refine wpAnyH_take (i := 0) (oi := { dst := some 11, op := _, type := _, pos := _, after := _, guard := _ }) (v := ?_) rfl (by kernel_rfl) (by kernel_rfl) (by kernel_rfl) (fun _ _ _ h => h) (Or.inl ⟨by rfl, ?_⟩) trivial ?_
    case refine_2 =>
      intro w hSw
      try dsimp only at hSw
      go_simp
      try with_reducible rfl
    simp only [Act.put, List.setIfInBounds_toArray, List.set_cons_zero, List.set_cons_succ]
    refine wpAnyH_take (i := 1) (oi := { dst := some 12, op := _, type := _, pos := _, after := _, guard := _ }) (v := ?_) rfl (by kernel_rfl) (by kernel_rfl) (by kernel_rfl) (fun _ _ _ h => h) (Or.inl ⟨by rfl, ?_⟩) trivial ?_
    case refine_2 =>
      intro w hSw
      try dsimp only at hSw
      go_simp
      try with_reducible rfl
    simp only [Act.put, List.setIfInBounds_toArray, List.set_cons_zero, List.set_cons_succ]
    refine wpAnyH_take (i := 2) (oi := { dst := some 13, op := _, type := _, pos := _, after := _, guard := _ }) (v := ?_) rfl (by kernel_rfl) (by kernel_rfl) (by kernel_rfl) (fun _ _ _ h => h) (Or.inl ⟨by rfl, ?_⟩) trivial ?_
    case refine_2 =>
      intro w hSw
      try dsimp only at hSw
      go_simp
      try with_reducible rfl
    simp only [Act.put, List.setIfInBounds_toArray, List.set_cons_zero, List.set_cons_succ]
    refine wpAnyH_take (i := 4) (oi := { dst := some 15, op := _, type := _, pos := _, after := _, guard := _ }) (v := ?_) rfl (by kernel_rfl) (by kernel_rfl) (by kernel_rfl) (fun _ _ _ h => h) (Or.inl ⟨by rfl, ?_⟩) trivial ?_
    case refine_2 =>
      intro w hSw
      try dsimp only at hSw
      go_simp
      try with_reducible rfl
    simp only [Act.put, List.setIfInBounds_toArray, List.set_cons_zero, List.set_cons_succ]
    refine wpAnyH_take (i := 5) (oi := { dst := some 16, op := _, type := _, pos := _, after := _, guard := _ }) (v := ?_) rfl (by kernel_rfl) (by kernel_rfl) (by kernel_rfl) (fun _ _ _ h => h) (Or.inl ⟨by rfl, ?_⟩) trivial ?_
    case refine_2 =>
      intro w hSw
      try dsimp only at hSw
      go_simp
      try with_reducible rfl
    simp only [Act.put, List.setIfInBounds_toArray, List.set_cons_zero, List.set_cons_succ]
    refine wpAnyH_take (i := 6) (oi := { dst := some 17, op := _, type := _, pos := _, after := _, guard := _ }) (v := ?_) rfl (by kernel_rfl) (by kernel_rfl) (by kernel_rfl) (fun _ _ _ h => h) (Or.inl ⟨by rfl, ?_⟩) trivial ?_
    case refine_2 =>
      intro w hSw
      try dsimp only at hSw
      go_simp
      try with_reducible rfl
    simp only [Act.put, List.setIfInBounds_toArray, List.set_cons_zero, List.set_cons_succ]
    refine wpAnyH_take (i := 8) (oi := { dst := some 19, op := _, type := _, pos := _, after := _, guard := _ }) (v := ?_) rfl (by kernel_rfl) (by kernel_rfl) (by kernel_rfl) (fun _ _ _ h => h) (Or.inl ⟨by rfl, ?_⟩) trivial ?_
    case refine_2 =>
      intro w hSw
      try dsimp only at hSw
      go_simp
      try with_reducible rfl
    simp only [Act.put, List.setIfInBounds_toArray, List.set_cons_zero, List.set_cons_succ]
    refine wpAnyH_take (i := 9) (oi := { dst := some 20, op := _, type := _, pos := _, after := _, guard := _ }) (v := ?_) rfl (by kernel_rfl) (by kernel_rfl) (by kernel_rfl) (fun _ _ _ h => h) (Or.inl ⟨by rfl, ?_⟩) trivial ?_
    case refine_2 =>
      intro w hSw
      try dsimp only at hSw
      go_simp
      try with_reducible rfl
    simp only [Act.put, List.setIfInBounds_toArray, List.set_cons_zero, List.set_cons_succ]
    refine wpAnyH_take (i := 10) (oi := { dst := some 21, op := _, type := _, pos := _, after := _, guard := _ }) (v := ?_) rfl (by kernel_rfl) (by kernel_rfl) (by kernel_rfl) (fun _ _ _ h => h) (Or.inl ⟨by rfl, ?_⟩) trivial ?_
    case refine_2 =>
      intro w hSw
      try dsimp only at hSw
      go_simp
      try with_reducible rfl
    simp only [Act.put, List.setIfInBounds_toArray, List.set_cons_zero, List.set_cons_succ]
    obtain ⟨x0, hx0⟩ : ∃ x0, w.drew = x0 := ⟨_, rfl⟩
    have HX0 : Hid (Below w.heap.size w x0) := by rw [← hx0]; exact Below.drew (Below.refl _ _)
    rw [hx0]
    refine wpAnyH_ready (rs := [3, 12]) (by kernel_rfl) (by simp) ?_
    refine AllReadyH.cons (o := { dst := some 14, op := _, type := _, pos := _, after := _, guard := _ }) rfl (fun K hK => ?_) ?_
    · refine step_enterH rfl (by simp [Act.eval, ent0, go_sem]) ((leave_ex ((unhide HPY).keep (unhide HX0)) hly).mono ?_)
      rintro e x1 ⟨l0, wb0, rfl, LA0⟩
      have HX1 := hide ((unhide HX0).trans ((unhide LA0).below.mono (unhide HX0).size))
      have HS1 := hide (unhide LA0).below
      refine hK.out _ _ trivial (fun _ => ?_)
      clear hK K
      simp only [Act.put, List.setIfInBounds_toArray, List.set_cons_zero, List.set_cons_succ]
      refine wpAnyH_ready (rs := [7, 12]) (by kernel_rfl) (by simp) ?_
      refine AllReadyH.cons (o := { dst := some 18, op := _, type := _, pos := _, after := _, guard := _ }) rfl (fun K hK => ?_) ?_
      · refine step_enterH rfl (by simp [Act.eval, ent3, go_sem]) ((leave_ex ((unhide HPO).keep (unhide HX1)) hlo).mono ?_)
        rintro e x2 ⟨l1, wb1, rfl, LA1⟩
        have HX2 := hide ((unhide HX1).trans ((unhide LA1).below.mono (unhide HX1).size))
        have HS2 := hide (unhide LA1).below
        refine hK.out _ _ trivial (fun _ => ?_)
        clear hK K
        simp only [Act.put, List.setIfInBounds_toArray, List.set_cons_zero, List.set_cons_succ]
        refine wpAnyH_ready (rs := [11, 12]) (by kernel_rfl) (by simp) ?_
        refine AllReadyH.cons (o := { dst := some 22, op := _, type := _, pos := _, after := _, guard := _ }) rfl (fun K hK => ?_) ?_
        · refine step_enterH rfl (by simp [Act.eval, entn, go_sem]) ((next_any ((unhide HPO).keep (unhide HX2)) (cellk (unhide HX2) (unhide HFO) (cell_lt (unhide HFO))) hfo0 hfo1).mono ?_)
          rintro e x3 ⟨rfl, hbn⟩
          have HX3 := hide ((unhide HX2).trans (hbn.mono (unhide HX2).size))
          have HS3 := hide hbn
          clear hbn
          refine hK.out _ _ trivial (fun _ => ?_)
          clear hK K
          simp only [Act.put, List.setIfInBounds_toArray, List.set_cons_zero, List.set_cons_succ]
          refine wpAnyH_ready (rs := [12]) (by kernel_rfl) (by simp) ?_
          refine AllReadyH.cons (o := { dst := some 7, op := _, type := _, pos := _, after := _, guard := _ }) rfl (fun K hK => ?_) AllReadyH.nil
          obtain ⟨x4, hx4⟩ : ∃ x4, x3.alloc (.cells #[.int .i64 0, .slice none 0 0, .slice none 0 0] 48) = x4 := ⟨_, rfl⟩
          have HS4 : Hid (Below x3.heap.size x3 x4) := by rw [← hx4]; exact (Below.refl _ _).alloc (Nat.le_refl _) _
          have HX4 := hide ((unhide HX3).trans ((unhide HS4).mono (unhide HX3).size))
          have HT : Hid (x4.heap[x3.heap.size]? = some (.cells #[.int .i64 0, .slice none 0 0, .slice none 0 0] 48 (0, 0))) := by rw [← hx4]; exact hnew _ _
          go_simp
          refine hK.out _ _ trivial (fun _ => ?_)
          clear hK K
          try simp only [Act.put, List.setIfInBounds_toArray, List.set_cons_zero, List.set_cons_succ]
          refine wpAnyH_take (i := 13) (oi := { dst := some 5, op := _, type := _, pos := _, after := _, guard := _ }) (v := ?_) rfl (by kernel_rfl) (by kernel_rfl) (by kernel_rfl) (fun _ _ _ h => h) (Or.inl ⟨by rfl, ?_⟩) trivial ?_
          case refine_2 =>
            intro w hSw
            try dsimp only at hSw
            go_simp
            try with_reducible rfl
          simp only [Act.put, List.setIfInBounds_toArray, List.set_cons_zero, List.set_cons_succ]
          refine wpAnyH_take (i := 14) (oi := { dst := some 6, op := _, type := _, pos := _, after := _, guard := _ }) (v := ?_) rfl (by kernel_rfl) (by kernel_rfl) (by kernel_rfl) (fun _ _ _ h => h) (Or.inl ⟨by rfl, ?_⟩) trivial ?_
          case refine_2 =>
            intro w hSw
            try dsimp only at hSw
            go_simp
            try with_reducible rfl
          simp only [Act.put, List.setIfInBounds_toArray, List.set_cons_zero, List.set_cons_succ]
          have ht := ((Below.refl _ _).block x3.heap.size (hlt (unhide HT))).trans (unhide HT)
          have t0 := hcell ht 0
          have t1 := fun u => cell_off (v := u) (i := 0) (hcell ht 1) (by decide)
          have t2 := fun u u' => cell_off2 (v := u) (v' := u') (i := 0) (i' := 1) (hcell ht 2) (by decide) (by decide)
          have y0 := hfroz ht 0
          have y1 := hfroz ht 1
          have y2 := hfroz ht 2
          have HTT := hide ht
          clear ht
          refine wpAnyH_ready (rs := [15]) (by kernel_rfl) (by simp) ?_
          refine AllReadyH.cons (o := { dst := none, op := _, type := _, pos := _, after := _, guard := _ }) rfl (fun K hK => ?_) AllReadyH.nil
          go_simp
          refine hK.out _ _ trivial (fun _ => ?_)
          clear hK K
          refine wpAnyH_done (by kernel_rfl) ?_ _
          have hmb := maj_beg (unhide H) (unhide LA0) (unhide HX0) (((unhide HS2).trans ((unhide HS3).mono (unhide HS2).size)).trans ((unhide HS4).mono ((unhide HS2).trans ((unhide HS3).mono (unhide HS2).size)).size)) (unhide LA1) (unhide HX1) ((unhide HS3).trans ((unhide HS4).mono (unhide HS3).size)) (Nat.le_refl _) (unhide HTT) (unhide HX4) (unhide HX3).size
          go_wp2_with fail
          go_meet
          exact ⟨l0, l1, _, wb0, wb1, rfl, rfl, rfl, hmb⟩
        refine AllReadyH.cons (o := { dst := some 7, op := _, type := _, pos := _, after := _, guard := _ }) rfl (fun K hK => ?_) AllReadyH.nil
        obtain ⟨x3, hx3⟩ : ∃ x3, x2.alloc (.cells #[.int .i64 0, .slice none 0 0, .slice none 0 0] 48) = x3 := ⟨_, rfl⟩
        have HS3 : Hid (Below x2.heap.size x2 x3) := by rw [← hx3]; exact (Below.refl _ _).alloc (Nat.le_refl _) _
        have HX3 := hide ((unhide HX2).trans ((unhide HS3).mono (unhide HX2).size))
        have HT : Hid (x3.heap[x2.heap.size]? = some (.cells #[.int .i64 0, .slice none 0 0, .slice none 0 0] 48 (0, 0))) := by rw [← hx3]; exact hnew _ _
        go_simp
        refine hK.out _ _ trivial (fun _ => ?_)
        clear hK K
        try simp only [Act.put, List.setIfInBounds_toArray, List.set_cons_zero, List.set_cons_succ]
        refine wpAnyH_ready (rs := [11]) (by kernel_rfl) (by simp) ?_
        refine AllReadyH.cons (o := { dst := some 22, op := _, type := _, pos := _, after := _, guard := _ }) rfl (fun K hK => ?_) AllReadyH.nil
        refine step_enterH rfl (by simp [Act.eval, entn, go_sem]) ((next_any ((unhide HPO).keep (unhide HX3)) (cellk (unhide HX3) (unhide HFO) (cell_lt (unhide HFO))) hfo0 hfo1).mono ?_)
        rintro e x4 ⟨rfl, hbn⟩
        have HX4 := hide ((unhide HX3).trans (hbn.mono (unhide HX3).size))
        have HS4 := hide hbn
        clear hbn
        refine hK.out _ _ trivial (fun _ => ?_)
        clear hK K
        simp only [Act.put, List.setIfInBounds_toArray, List.set_cons_zero, List.set_cons_succ]
        refine wpAnyH_take (i := 13) (oi := { dst := some 5, op := _, type := _, pos := _, after := _, guard := _ }) (v := ?_) rfl (by kernel_rfl) (by kernel_rfl) (by kernel_rfl) (fun _ _ _ h => h) (Or.inl ⟨by rfl, ?_⟩) trivial ?_
        case refine_2 =>
          intro w hSw
          try dsimp only at hSw
          go_simp
          try with_reducible rfl
        simp only [Act.put, List.setIfInBounds_toArray, List.set_cons_zero, List.set_cons_succ]
        refine wpAnyH_take (i := 14) (oi := { dst := some 6, op := _, type := _, pos := _, after := _, guard := _ }) (v := ?_) rfl (by kernel_rfl) (by kernel_rfl) (by kernel_rfl) (fun _ _ _ h => h) (Or.inl ⟨by rfl, ?_⟩) trivial ?_
        case refine_2 =>
          intro w hSw
          try dsimp only at hSw
          go_simp
          try with_reducible rfl
        simp only [Act.put, List.setIfInBounds_toArray, List.set_cons_zero, List.set_cons_succ]
        have ht := ((unhide HS4).block x2.heap.size (hlt (unhide HT))).trans (unhide HT)
        have t0 := hcell ht 0
        have t1 := fun u => cell_off (v := u) (i := 0) (hcell ht 1) (by decide)
        have t2 := fun u u' => cell_off2 (v := u) (v' := u') (i := 0) (i' := 1) (hcell ht 2) (by decide) (by decide)
        have y0 := hfroz ht 0
        have y1 := hfroz ht 1
        have y2 := hfroz ht 2
        have HTT := hide ht
        clear ht
        refine wpAnyH_ready (rs := [15]) (by kernel_rfl) (by simp) ?_
        refine AllReadyH.cons (o := { dst := none, op := _, type := _, pos := _, after := _, guard := _ }) rfl (fun K hK => ?_) AllReadyH.nil
        go_simp
        refine hK.out _ _ trivial (fun _ => ?_)
        clear hK K
        refine wpAnyH_done (by kernel_rfl) ?_ _
        have hmb := maj_beg (unhide H) (unhide LA0) (unhide HX0) (((unhide HS2).trans ((unhide HS3).mono (unhide HS2).size)).trans ((unhide HS4).mono ((unhide HS2).trans ((unhide HS3).mono (unhide HS2).size)).size)) (unhide LA1) (unhide HX1) ((unhide HS3).trans ((unhide HS4).mono (unhide HS3).size)) (Nat.le_refl _) (unhide HTT) (unhide HX4) (unhide HX2).size
        go_wp2_with fail
        go_meet
        exact ⟨l0, l1, _, wb0, wb1, rfl, rfl, rfl, hmb⟩
      refine AllReadyH.cons (o := { dst := some 7, op := _, type := _, pos := _, after := _, guard := _ }) rfl (fun K hK => ?_) AllReadyH.nil
      obtain ⟨x2, hx2⟩ : ∃ x2, x1.alloc (.cells #[.int .i64 0, .slice none 0 0, .slice none 0 0] 48) = x2 := ⟨_, rfl⟩
      have HS2 : Hid (Below x1.heap.size x1 x2) := by rw [← hx2]; exact (Below.refl _ _).alloc (Nat.le_refl _) _
      have HX2 := hide ((unhide HX1).trans ((unhide HS2).mono (unhide HX1).size))
      have HT : Hid (x2.heap[x1.heap.size]? = some (.cells #[.int .i64 0, .slice none 0 0, .slice none 0 0] 48 (0, 0))) := by rw [← hx2]; exact hnew _ _
      go_simp
      refine hK.out _ _ trivial (fun _ => ?_)
      clear hK K
      try simp only [Act.put, List.setIfInBounds_toArray, List.set_cons_zero, List.set_cons_succ]
      refine wpAnyH_ready (rs := [7]) (by kernel_rfl) (by simp) ?_
      refine AllReadyH.cons (o := { dst := some 18, op := _, type := _, pos := _, after := _, guard := _ }) rfl (fun K hK => ?_) AllReadyH.nil
      refine step_enterH rfl (by simp [Act.eval, ent3, go_sem]) ((leave_ex ((unhide HPO).keep (unhide HX2)) hlo).mono ?_)
      rintro e x3 ⟨l1, wb1, rfl, LA1⟩
      have HX3 := hide ((unhide HX2).trans ((unhide LA1).below.mono (unhide HX2).size))
      have HS3 := hide (unhide LA1).below
      refine hK.out _ _ trivial (fun _ => ?_)
      clear hK K
      simp only [Act.put, List.setIfInBounds_toArray, List.set_cons_zero, List.set_cons_succ]
      refine wpAnyH_ready (rs := [11]) (by kernel_rfl) (by simp) ?_
      refine AllReadyH.cons (o := { dst := some 22, op := _, type := _, pos := _, after := _, guard := _ }) rfl (fun K hK => ?_) AllReadyH.nil
      refine step_enterH rfl (by simp [Act.eval, entn, go_sem]) ((next_any ((unhide HPO).keep (unhide HX3)) (cellk (unhide HX3) (unhide HFO) (cell_lt (unhide HFO))) hfo0 hfo1).mono ?_)
      rintro e x4 ⟨rfl, hbn⟩
      have HX4 := hide ((unhide HX3).trans (hbn.mono (unhide HX3).size))
      have HS4 := hide hbn
      clear hbn
      refine hK.out _ _ trivial (fun _ => ?_)
      clear hK K
      simp only [Act.put, List.setIfInBounds_toArray, List.set_cons_zero, List.set_cons_succ]
      refine wpAnyH_take (i := 13) (oi := { dst := some 5, op := _, type := _, pos := _, after := _, guard := _ }) (v := ?_) rfl (by kernel_rfl) (by kernel_rfl) (by kernel_rfl) (fun _ _ _ h => h) (Or.inl ⟨by rfl, ?_⟩) trivial ?_
      case refine_2 =>
        intro w hSw
        try dsimp only at hSw
        go_simp
        try with_reducible rfl
      simp only [Act.put, List.setIfInBounds_toArray, List.set_cons_zero, List.set_cons_succ]
      refine wpAnyH_take (i := 14) (oi := { dst := some 6, op := _, type := _, pos := _, after := _, guard := _ }) (v := ?_) rfl (by kernel_rfl) (by kernel_rfl) (by kernel_rfl) (fun _ _ _ h => h) (Or.inl ⟨by rfl, ?_⟩) trivial ?_
      case refine_2 =>
        intro w hSw
        try dsimp only at hSw
        go_simp
        try with_reducible rfl
      simp only [Act.put, List.setIfInBounds_toArray, List.set_cons_zero, List.set_cons_succ]
      have ht := (((unhide HS3).trans ((unhide HS4).mono (unhide HS3).size)).block x1.heap.size (hlt (unhide HT))).trans (unhide HT)
      have t0 := hcell ht 0
      have t1 := fun u => cell_off (v := u) (i := 0) (hcell ht 1) (by decide)
      have t2 := fun u u' => cell_off2 (v := u) (v' := u') (i := 0) (i' := 1) (hcell ht 2) (by decide) (by decide)
      have y0 := hfroz ht 0
      have y1 := hfroz ht 1
      have y2 := hfroz ht 2
      have HTT := hide ht
      clear ht
      refine wpAnyH_ready (rs := [15]) (by kernel_rfl) (by simp) ?_
      refine AllReadyH.cons (o := { dst := none, op := _, type := _, pos := _, after := _, guard := _ }) rfl (fun K hK => ?_) AllReadyH.nil
      go_simp
      refine hK.out _ _ trivial (fun _ => ?_)
      clear hK K
      refine wpAnyH_done (by kernel_rfl) ?_ _
      have hmb := maj_beg (unhide H) (unhide LA0) (unhide HX0) (((unhide HS2).trans ((unhide HS3).mono (unhide HS2).size)).trans ((unhide HS4).mono ((unhide HS2).trans ((unhide HS3).mono (unhide HS2).size)).size)) (unhide LA1) (unhide HX2) (unhide HS4) ((unhide HS2)).size (unhide HTT) (unhide HX4) (unhide HX1).size
      go_wp2_with fail
      go_meet
      exact ⟨l0, l1, _, wb0, wb1, rfl, rfl, rfl, hmb⟩
    refine AllReadyH.cons (o := { dst := some 7, op := _, type := _, pos := _, after := _, guard := _ }) rfl (fun K hK => ?_) AllReadyH.nil
    obtain ⟨x1, hx1⟩ : ∃ x1, x0.alloc (.cells #[.int .i64 0, .slice none 0 0, .slice none 0 0] 48) = x1 := ⟨_, rfl⟩
    have HS1 : Hid (Below x0.heap.size x0 x1) := by rw [← hx1]; exact (Below.refl _ _).alloc (Nat.le_refl _) _
    have HX1 := hide ((unhide HX0).trans ((unhide HS1).mono (unhide HX0).size))
    have HT : Hid (x1.heap[x0.heap.size]? = some (.cells #[.int .i64 0, .slice none 0 0, .slice none 0 0] 48 (0, 0))) := by rw [← hx1]; exact hnew _ _
    go_simp
    refine hK.out _ _ trivial (fun _ => ?_)
    clear hK K
    try simp only [Act.put, List.setIfInBounds_toArray, List.set_cons_zero, List.set_cons_succ]
    refine wpAnyH_ready (rs := [3]) (by kernel_rfl) (by simp) ?_
    refine AllReadyH.cons (o := { dst := some 14, op := _, type := _, pos := _, after := _, guard := _ }) rfl (fun K hK => ?_) AllReadyH.nil
    refine step_enterH rfl (by simp [Act.eval, ent0, go_sem]) ((leave_ex ((unhide HPY).keep (unhide HX1)) hly).mono ?_)
    rintro e x2 ⟨l0, wb0, rfl, LA0⟩
    have HX2 := hide ((unhide HX1).trans ((unhide LA0).below.mono (unhide HX1).size))
    have HS2 := hide (unhide LA0).below
    refine hK.out _ _ trivial (fun _ => ?_)
    clear hK K
    simp only [Act.put, List.setIfInBounds_toArray, List.set_cons_zero, List.set_cons_succ]
    refine wpAnyH_ready (rs := [7]) (by kernel_rfl) (by simp) ?_
    refine AllReadyH.cons (o := { dst := some 18, op := _, type := _, pos := _, after := _, guard := _ }) rfl (fun K hK => ?_) AllReadyH.nil
    refine step_enterH rfl (by simp [Act.eval, ent3, go_sem]) ((leave_ex ((unhide HPO).keep (unhide HX2)) hlo).mono ?_)
    rintro e x3 ⟨l1, wb1, rfl, LA1⟩
    have HX3 := hide ((unhide HX2).trans ((unhide LA1).below.mono (unhide HX2).size))
    have HS3 := hide (unhide LA1).below
    refine hK.out _ _ trivial (fun _ => ?_)
    clear hK K
    simp only [Act.put, List.setIfInBounds_toArray, List.set_cons_zero, List.set_cons_succ]
    refine wpAnyH_ready (rs := [11]) (by kernel_rfl) (by simp) ?_
    refine AllReadyH.cons (o := { dst := some 22, op := _, type := _, pos := _, after := _, guard := _ }) rfl (fun K hK => ?_) AllReadyH.nil
    refine step_enterH rfl (by simp [Act.eval, entn, go_sem]) ((next_any ((unhide HPO).keep (unhide HX3)) (cellk (unhide HX3) (unhide HFO) (cell_lt (unhide HFO))) hfo0 hfo1).mono ?_)
    rintro e x4 ⟨rfl, hbn⟩
    have HX4 := hide ((unhide HX3).trans (hbn.mono (unhide HX3).size))
    have HS4 := hide hbn
    clear hbn
    refine hK.out _ _ trivial (fun _ => ?_)
    clear hK K
    simp only [Act.put, List.setIfInBounds_toArray, List.set_cons_zero, List.set_cons_succ]
    refine wpAnyH_take (i := 13) (oi := { dst := some 5, op := _, type := _, pos := _, after := _, guard := _ }) (v := ?_) rfl (by kernel_rfl) (by kernel_rfl) (by kernel_rfl) (fun _ _ _ h => h) (Or.inl ⟨by rfl, ?_⟩) trivial ?_
    case refine_2 =>
      intro w hSw
      try dsimp only at hSw
      go_simp
      try with_reducible rfl
    simp only [Act.put, List.setIfInBounds_toArray, List.set_cons_zero, List.set_cons_succ]
    refine wpAnyH_take (i := 14) (oi := { dst := some 6, op := _, type := _, pos := _, after := _, guard := _ }) (v := ?_) rfl (by kernel_rfl) (by kernel_rfl) (by kernel_rfl) (fun _ _ _ h => h) (Or.inl ⟨by rfl, ?_⟩) trivial ?_
    case refine_2 =>
      intro w hSw
      try dsimp only at hSw
      go_simp
      try with_reducible rfl
    simp only [Act.put, List.setIfInBounds_toArray, List.set_cons_zero, List.set_cons_succ]
    have ht := ((((unhide HS2).trans ((unhide HS3).mono (unhide HS2).size)).trans ((unhide HS4).mono ((unhide HS2).trans ((unhide HS3).mono (unhide HS2).size)).size)).block x0.heap.size (hlt (unhide HT))).trans (unhide HT)
    have t0 := hcell ht 0
    have t1 := fun u => cell_off (v := u) (i := 0) (hcell ht 1) (by decide)
    have t2 := fun u u' => cell_off2 (v := u) (v' := u') (i := 0) (i' := 1) (hcell ht 2) (by decide) (by decide)
    have y0 := hfroz ht 0
    have y1 := hfroz ht 1
    have y2 := hfroz ht 2
    have HTT := hide ht
    clear ht
    refine wpAnyH_ready (rs := [15]) (by kernel_rfl) (by simp) ?_
    refine AllReadyH.cons (o := { dst := none, op := _, type := _, pos := _, after := _, guard := _ }) rfl (fun K hK => ?_) AllReadyH.nil
    go_simp
    refine hK.out _ _ trivial (fun _ => ?_)
    clear hK K
    refine wpAnyH_done (by kernel_rfl) ?_ _
    have hmb := maj_beg (unhide H) (unhide LA0) (unhide HX1) ((unhide HS3).trans ((unhide HS4).mono (unhide HS3).size)) (unhide LA1) (unhide HX2) (unhide HS4) (Nat.le_refl _) (unhide HTT) (unhide HX4) (unhide HX0).size
    go_wp2_with fail
    go_meet
    exact ⟨l0, l1, _, wb0, wb1, rfl, rfl, rfl, hmb⟩
  obtain ⟨l0, l1, tb, wb0, wb1, rfl, rfl, rfl, hbeg⟩ := hcut
  have HBEG := hide hbeg
  clear hbeg
  go_wp2_with fail
  refine (newMover_any _ tb 0 wc.heap.size 2 2).mono ?_
  rintro e w4 ⟨rfl, hw4⟩
  have hz4 : (wc.alloc (.cells #[.pointer (some ⟨l0, 0, none⟩), .pointer (some ⟨l1, 0, none⟩)] 65)).heap.size = wc.heap.size + 1 := by simp
  have hw4' : w4 = majW wc tb l0 l1 := hw4
  have HM4 : Hid (MvAt B w4 (majB wc hp tb l0 wb0 l1 wb1 vyo vyf voo vof) (majM P) #[.int .i64 (P.fo + 2 * P.O.length), .slice none 0 0, .slice none 0 0] 48 (.slice none 0 0) (.slice none 0 0)) := by rw [hw4']; exact major_begin (unhide H) (unhide HBEG)
  have HBC : Hid (Below wc.heap.size wc w4) := by rw [hw4']; exact majW_below _ _ _ _
  have HB4 := hide ((unhide HBEG).below.trans ((unhide HBC).mono (unhide HBEG).below.size))
  have HG4 := hide ((unhide H).keep (unhide HB4))
  have HR4 := hide ((unhide HR).keep (unhide HB4))
  have HFIT := hide (maj_fit (unhide HBEG) (unhide HBC).size (unhide HB4) (unhide HR))
  have HIN0 := hide (MInv.start (M := majM P) (maj_fresh P) (by have := (unhide H).two; simp only [majM]; omega))
  have HCP0 := hide (maj_cap (unhide H))
  rw [hz4]
  clear hw4 hw4' hz4
  go_wp2_with fail
  refine (roots_any (unhide HM4) (unhide HCP0) (unhide HIN0) (unhide HR4).rt (unhide HFIT).out (unhide HR4).n64 (unhide HR4).few cap).mono ?_
  rintro e w5 ⟨rfl, hF5, cs5, vt5, vf5, hM5, a5, b5⟩
  obtain ⟨hI5, hL5, hft5, hT5, hp5, hW5⟩ := (unhide HIN0).roots (rootVs l)
  have hC5 := Cap.roots (rootVs l) (unhide HCP0) (unhide HIN0) (fun v hv => by
    unfold rootVs at hv
    obtain ⟨r, hr1, hr2⟩ := List.mem_filterMap.1 hv
    cases r with
    | none => cases hr2
    | some z =>
      obtain ⟨rb, ro, u⟩ := z
      cases hr2
      exact (unhide HR4).n64 rb ro _ hr1)
  have HF5 := hide hF5
  have HM5 := hide hM5
  have HI5 := hide hI5
  have HC5 := hide hC5
  have HL5 := hide hL5
  have HW5 := hide hW5
  have HA5 := hide a5
  have HB5 := hide b5
  have HFT5 := hide hft5
  have HP5 := hide hp5
  clear hF5 hM5 hI5 hC5 hL5 hW5 a5 b5 hft5 hT5 hp5
  go_wp2_with fail
  refine (rest_any (unhide HM5) (unhide HC5) (unhide HI5)).mono ?_
  rintro e w6 ⟨rfl, hF6, cs6, vt6, vf6, hM6, a6, b6⟩
  obtain ⟨hI6, hL6, hft6, _, _⟩ := (unhide HI5).rest (pot (rootsM (majM P) (rootVs l)) - (allF (majM P).T).length) (by omega)
  have hC6 := Cap.rest (pot (rootsM (majM P) (rootVs l)) - (allF (majM P).T).length) (unhide HC5) (unhide HI5)
  have hLL := (unhide HL5).trans hL6
  have hFF := (unhide HF5).trans hF6 (unhide HA5) (unhide HB5)
  have aa := own_trans (unhide HA5) a6 (unhide HF5).size
  have bb := own_trans (unhide HB5) b6 (unhide HF5).size
  have hto : ToOut (restM (pot (rootsM (majM P) (rootVs l)) - (allF (majM P).T).length) (rootsM (majM P) (rootVs l)) (allF (majM P).T).length) := fun t _ => by
    rw [hLL.leads, show _ = (majM P).ft from hft6.trans (unhide HFT5)]
    exact maj_out (unhide H) t
  have hft : (restM (pot (rootsM (majM P) (rootVs l)) - (allF (majM P).T).length) (rootsM (majM P) (rootVs l)) (allF (majM P).T).length).ft = (majM P).ft := hft6.trans (unhide HFT5)
  have hwn : ∀ rb ro v, some (rb, ro, v) ∈ l → Went (restM (pot (rootsM (majM P) (rootVs l)) - (allF (majM P).T).length) (rootsM (majM P) (rootVs l)) (allF (majM P).T).length).L v := fun rb ro v hv => hL6.went (unhide HW5 v (by
    unfold rootVs
    exact List.mem_filterMap.2 ⟨_, hv, rfl⟩))
  have hcn6 := (cnt_rest (pot (rootsM (majM P) (rootVs l)) - (allF (majM P).T).length) (unhide HI5)).trans (cnt_roots (rootVs l) (unhide HIN0))
  have hpo6 := (pot_rest (pot (rootsM (majM P) (rootVs l)) - (allF (majM P).T).length) (unhide HI5)).trans (unhide HP5)
  have hM6e : restM (pot (rootsM (majM P) (rootVs l)) - (allF (majM P).T).length) (rootsM (majM P) (rootVs l)) (allF (majM P).T).length = restM (pot (rootsM (majM P) (rootVs l))) (rootsM (majM P) (rootVs l)) 0 := by
    have hz : (allF (majM P).T).length = 0 := by simp [majM, allF]
    rw [hz, Nat.sub_zero]
  have HM6E := hide hM6e
  clear hft6 hL6 hM6e
  generalize restM (pot (rootsM (majM P) (rootVs l)) - (allF (majM P).T).length) (rootsM (majM P) (rootVs l)) (allF (majM P).T).length = M6 at *
  have c7 : w6.cell? ⟨hp, 7, none⟩ = some (.int .i64 P.ro) := by
    have o := maj_outk (unhide HBEG) (unhide HBC).size (hlt (unhide H).at'.blk)
    exact (World.cell?_of_block (o.same hFF)).trans (hcell (unhide HG4).at'.blk 7)
  obtain ⟨cm, hcm⟩ : ∃ cm : Nat, M6.T.length + (allF M6.T).length = cm := ⟨_, rfl⟩
  have hcmr : (cm : Int) ≤ P.ro := by
    have q1 := cnt_room M6
    have q2 : (allF M6.T).length ≤ Go.Proofs.Ytddfdefgdlfpmaa.pot M6 := by unfold Go.Proofs.Ytddfdefgdlfpmaa.pot; omega
    rw [hcn6, (maj_cnt P).1] at q1
    rw [hpo6, (maj_cnt P).2] at q2
    omega
  have HCM : Hid (∀ X, Below w6.heap.size w6 X → Calls Try.prog 17 #[.pointer (some ⟨tb, 0, none⟩)] X fun e w' => e = .returned (.int .i64 (cm : Int)) ∧ Below X.heap.size X w') := fun X hX => by
    have pt : PtAt B w6 tb 0 M6.T vt6 vf6 := ⟨(hcell hM6.tpart.blk _).trans hM6.tpart.e1, (hcell hM6.tpart.blk _).trans hM6.tpart.e2, hM6.tpart.objs, hM6.tpart.flds, hM6.tpart.few⟩
    have := cells_any (pt.keep hX) hM6.tpart.fewo
    rw [hcm] at this
    exact this
  have entc : ∀ w : World, Sem.run Try.prog (callFunc 17 #[.pointer (some ⟨tb, 0, none⟩)]) w = .ok (.enter 17 #[.pointer (some ⟨tb, 0, none⟩)]) w := fun _ => by kernel_rfl
  have HI6 := hide hI6
  have HC6 := hide hC6
  have HM6 := hide hM6
  have HLL := hide hLL
  have HFF := hide hFF
  have HAA := hide aa
  have HBB := hide bb
  have HTO := hide hto
  have HFTM := hide hft
  have HWN := hide hwn
  clear hI6 hC6 hM6 hLL hFF aa bb hto hft hwn hF6 a6 b6 hcm
  go_wp2_with fail
  refine wp_region_held_drew (S := fun w' => w'.cell? ⟨hp, 7, none⟩ = some (.int .i64 P.ro)) (by kernel_rfl) c7 (fun hHeld => ?_)
  refine wpAnyH_take (i := 1) (oi := { dst := some 33, op := _, type := _, pos := _, after := _, guard := _ }) (v := ?_) rfl (by kernel_rfl) (by kernel_rfl) (by kernel_rfl) (fun _ _ _ h => h) (Or.inl ⟨by rfl, ?_⟩) (by assumption) ?_
  case refine_2 =>
    intro w hSw
    try dsimp only at hSw
    go_simp
    try with_reducible rfl
  simp only [Act.put, List.setIfInBounds_toArray, List.set_cons_zero, List.set_cons_succ]
  refine wpAnyH_take (i := 2) (oi := { dst := some 34, op := _, type := _, pos := _, after := _, guard := _ }) (v := ?_) rfl (by kernel_rfl) (by kernel_rfl) (by kernel_rfl) (fun _ _ _ h => h) (Or.inl ⟨by rfl, ?_⟩) (by assumption) ?_
  case refine_2 =>
    intro w hSw
    try dsimp only at hSw
    go_simp
    try with_reducible rfl
  simp only [Act.put, List.setIfInBounds_toArray, List.set_cons_zero, List.set_cons_succ]
  refine wpAnyH_take (i := 3) (oi := { dst := some 35, op := _, type := _, pos := _, after := _, guard := _ }) (v := ?_) rfl (by kernel_rfl) (by kernel_rfl) (by kernel_rfl) (fun _ _ _ h => h) (Or.inl ⟨by rfl, ?_⟩) (by assumption) ?_
  case refine_2 =>
    intro w hSw
    try dsimp only at hSw
    go_simp
    try with_reducible rfl
  simp only [Act.put, List.setIfInBounds_toArray, List.set_cons_zero, List.set_cons_succ]
  refine wpAnyH_take (i := 4) (oi := { dst := some 36, op := _, type := _, pos := _, after := _, guard := _ }) (v := ?_) rfl (by kernel_rfl) (by kernel_rfl) (by kernel_rfl) (fun _ _ _ h => h) (Or.inl ⟨by rfl, ?_⟩) (by assumption) ?_
  case refine_2 =>
    intro w hSw
    try dsimp only at hSw
    go_simp
    try with_reducible rfl
  simp only [Act.put, List.setIfInBounds_toArray, List.set_cons_zero, List.set_cons_succ]
  refine wpAnyH_ready (rs := [0]) (by kernel_rfl) (by simp) ?_
  refine AllReadyH.cons (o := { dst := some 32, op := _, type := _, pos := _, after := _, guard := _ }) rfl (fun K hK => ?_) AllReadyH.nil
  refine step_enterH rfl (by simp [Act.eval, entc, go_sem]) (((unhide HCM) _ (Below.drew (Below.refl _ _))).mono ?_)
  rintro e w7 ⟨rfl, hb7⟩
  have k7 := cellk hb7 c7 (cell_lt c7)
  have HB67 : Hid (Below w6.heap.size w6 w7) := (Below.drew (Below.refl _ _)).trans hb7
  clear hb7
  refine hK.out _ _ k7 (fun hHeld0 => ?_)
  clear hK K
  simp only [Act.put, List.setIfInBounds_toArray, List.set_cons_zero, List.set_cons_succ]
  refine wpAnyH_take (i := 5) (oi := { dst := some 37, op := _, type := _, pos := _, after := _, guard := _ }) (v := ?_) rfl (by kernel_rfl) (by kernel_rfl) (by kernel_rfl) (fun _ _ _ h => h) (Or.inl ⟨by rfl, ?_⟩) (by assumption) ?_
  case refine_2 =>
    intro w hSw
    try dsimp only at hSw
    go_simp
    try with_reducible rfl
  simp only [Act.put, List.setIfInBounds_toArray, List.set_cons_zero, List.set_cons_succ]
  refine wpAnyH_done (by kernel_rfl) ?_ _
  go_wp2_with fail
  obtain ⟨w8, hw8⟩ : ∃ w8, w7.alloc (.cells #[.pointer (some ⟨l0, 0, none⟩), .pointer (some ⟨l1, 0, none⟩)] 65) = w8 := ⟨_, rfl⟩
  have h78 : Below w7.heap.size w7 w8 := by rw [← hw8]; exact (Below.refl _ _).alloc (Nat.le_refl _) _
  have HB68 := hide ((unhide HB67).trans (h78.mono (unhide HB67).size))
  obtain ⟨p0, p1, hp0, hpf, hpl, hpl1, hst⟩ := maj_st (unhide H) (unhide HBEG) (unhide HBC) (unhide HR) (unhide HFF) (unhide HM6) (unhide HAA) (unhide HBB) (unhide HB67) hw8.symm
  have HM8 := hide ((unhide HM6).keep (unhide HB68))
  have HFIT8 := hide (((unhide HFIT).later (unhide HFF) (unhide HAA) (unhide HBB)).alloc (unhide HB68) (hlt (unhide HM6).tpart.blk))
  have HRT8 : Hid (RtAt w8 g l) := by
    have q := (unhide HR4).rt.same (unhide HFIT).out (unhide HFF)
    refine ⟨fun k r hk => ?_, fun rb ro v hv => ?_⟩
    · obtain ⟨gb, go, e, hc⟩ := q.at' k r hk
      exact ⟨gb, go, e, cellk (unhide HB68) hc (cell_lt (a := ⟨gb, go + k, none⟩) hc)⟩
    · obtain ⟨x, y, z⟩ := q.val rb ro v hv
      exact ⟨cellk (unhide HB68) x (cell_lt x), cellk (unhide HB68) y (cell_lt y), cellk (unhide HB68) z (cell_lt z)⟩
  have HST8 := hide hst
  have HIDS8 : Hid (∀ q x, objAt M6.L q = some x → I64 x.id) := fun q x hq => by
    rw [(unhide HLL).objs] at hq
    have hx : x ∈ P.Y ++ P.O := by
      unfold objAt majM at hq
      obtain ⟨i, k⟩ := q
      match i with
      | 0 => exact List.mem_append_left _ (List.mem_of_getElem? (by simpa using hq))
      | 1 => exact List.mem_append_right _ (List.mem_of_getElem? (by simpa using hq))
      | i + 2 => simp at hq
    exact ((unhide H).vals x hx).1
  have HCNT8 : Hid (n + cntObjs M6.L ≤ 1000000000) := by
    show n + cntObjs M6.L ≤ 1000000000
    rw [hp0]
    have := (unhide H).cnt
    simp [cntObjs, hpl, hpl1]
    omega
  rw [hw8]
  clear hst h78 k7 hHeld
  refine (settle_any (c2 := 2) (unhide HM8) (unhide HC6) (unhide HI6) (unhide HTO) (unhide HRT8) (unhide HFIT8) (unhide HR4).n64 (unhide HWN) (unhide HR4).few cap (unhide HST8) (unhide HIDS8) (unhide HCNT8)).mono ?_
  rintro e w9 ⟨rfl, wl, csl, vtl, vfl, hcs, T', n', s1, s2, s3, s4, s5, s6, s7, s8, s9, s10, s11, s12, s13, s14, s15⟩
  have z1 := (unhide HBEG).below.size
  have z2 := (unhide HBC).size
  have z3 := (unhide HFF).size
  have z4 := (unhide HB68).size
  have z5 := s2.size
  have tHw : Typ w hp 51 := ⟨_, _, (unhide H).at'.blk⟩
  have u8 : ∀ k, k < w.heap.size → w8.heap[k]? = w.heap[k]? := fun k hk => by
    rw [(unhide HB68).block k (by omega), (maj_outk (unhide HBEG) (unhide HBC).size hk).same (unhide HFF)]
    exact (unhide HB4).block k hk
  have o8 : ∀ k, k < w.heap.size → Out (majB wc hp tb l0 wb0 l1 wb1 vyo vyf voo vof) vt6 vf6 w8 k := fun k hk => ((maj_outk (unhide HBEG) (unhide HBC).size hk).later z3 (unhide HAA) (unhide HBB)).later z4 (Or.inl rfl) (Or.inl rfl)
  have hpl' : wl.heap[hp]? = some (.cells (hpCells P vyo vyf voo vof vn mb) 51 (0, 0)) := by
    rw [s2.block hp (o8 hp tHw.lt) (unhide HST8).hr, u8 hp tHw.lt]
    exact (unhide H).at'.blk
  have hTT : hcs = hpCells P vyo vyf voo vof vn mb ∧ T' = 51 := by
    rw [s6] at hpl'
    cases hpl'
    exact ⟨rfl, rfl⟩
  obtain ⟨rfl, rfl⟩ := hTT
  obtain ⟨es, cl, hm8, _⟩ := (unhide HST8).own
  have hml : wl.heap[mb]? = some (.map es cl) := (s2.block mb (unhide HST8).mo (unhide HST8).mr).trans hm8
  have tHl : Typ wl hp 51 := ⟨_, _, s6⟩
  have tbl : wl.heap[tb]? = some (.cells csl 48 (0, 0)) := s3.tpart.blk
  have tbT : Typ wl tb 48 := ⟨_, _, tbl⟩
  have tb9 : w9.heap[tb]? = some (.cells csl 48 (0, 0)) := (s11 tb tbT.lt (not_map hml tbT) (tbT.ne tHl (by decide))).trans tbl
  obtain ⟨gt, ct, hvt⟩ := owns_form s3.tpart.objs
  obtain ⟨gf, cf, hvf⟩ := owns_form s3.tpart.flds
  have e0 : w9.cell? ⟨tb, 0, none⟩ = some (.int .i64 M6.ft) := (hcell tb9 0).trans s3.tpart.e0
  have e1 : w9.cell? ⟨tb, 1, none⟩ = some (.slice gt M6.T.length ct) := by rw [← hvt]; exact (hcell tb9 1).trans s3.tpart.e1
  have e2 : w9.cell? ⟨tb, 2, none⟩ = some (.slice gf (allF M6.T).length cf) := by rw [← hvf]; exact (hcell tb9 2).trans s3.tpart.e2
  have gcell : ∀ c, c < 13 → ∃ u, w9.cell? ⟨hp, c, none⟩ = some u := fun c hc => ⟨_, (hcell s10 c).trans (Array.getElem?_eq_getElem (by simp [hpCells]; omega))⟩
  obtain ⟨x3, c3⟩ := gcell 3 (by omega)
  obtain ⟨x4, c4⟩ := gcell 4 (by omega)
  obtain ⟨x5, c5⟩ := gcell 5 (by omega)
  have c12 : w9.cell? ⟨hp, 12, none⟩ = some (.int .i64 P.majors) := hcell s10 12
  have c4' := fun q => cell_off (v := q) (i := 3) c4 (by decide)
  have c5' := fun q q' => cell_off2 (v := q) (v' := q') (i := 3) (i' := 4) c5 (by decide) (by decide)
  have c12' := fun q q' q'' => cell_off (v := q'') (i := 5) (cell_off2 (v := q) (v' := q') (i := 3) (i' := 4) c12 (by decide) (by decide)) (by decide)
  have y3 := hfroz s10 3
  have y4 := hfroz s10 4
  have y5 := hfroz s10 5
  have y12 := hfroz s10 12
  have S1 := hide s1
  have S2 := hide s2
  have S3 := hide s3
  have S4 := hide s4
  have S5 := hide s5
  have S6 := hide s6
  have S8 := hide s8
  have S9 := hide s9
  have S10 := hide s10
  have S11 := hide s11
  have S12 := hide (⟨s12, s13, s14, s15⟩ : wl.heap.size ≤ w9.heap.size ∧ w9.os = wl.os ∧ w9.tape = wl.tape ∧ w9.output = wl.output)
  have HU8 := hide u8
  have HO8 := hide o8
  have HML := hide hml
  have HTHL := hide tHl
  have HVT := hide hvt
  have HVF := hide hvf
  clear s1 s2 s3 s4 s5 s6 s8 s9 s10 s11 s12 s13 s14 s15 u8 o8 hml tHl hvt hvf hpl' hm8 tbl tb9 gcell c4 c5 c12
  go_wp2_with fail
  go_ret
  refine ⟨rfl, ?_⟩
  have hne : mb ≠ hp := fun e => by
    obtain ⟨e8, c8, h8, _⟩ := unhide S8
    have q := unhide S10
    rw [← e, h8] at q
    cases q
  rw [← unhide HVT, ← unhide HVF]
  obtain ⟨wz, hwz⟩ : ∃ wz, ((((w9.setCell ⟨hp, 3, none⟩ (.int .i64 M6.ft)).setCell ⟨hp, 4, none⟩ vtl).setCell ⟨hp, 5, none⟩ vfl).setCell ⟨hp, 12, none⟩ (.int .i64 (wrap64 (P.majors + 1)))) = wz := ⟨_, rfl⟩
  have hz : wz.heap[hp]? = some (.cells (hpCells (majP P M6.T (wrap64 (P.majors + 1))) (.slice none 0 0) (.slice none 0 0) vtl vfl (.slice none 0 0) mb) 51 (0, 0)) := by
    rw [← hwz, hset (hset (hset (hset (unhide S10) 3 (.int .i64 M6.ft)) 4 vtl) 5 vfl) 12 (.int .i64 (wrap64 (P.majors + 1)))]
    rw [maj_cells (T := M6.T) (by rw [hpf, hpl]) (unhide HFTM) rfl]
  have kz : ∀ k, k ≠ hp → wz.heap[k]? = w9.heap[k]? := fun k hk => by rw [← hwz, hother _ hk, hother _ hk, hother _ hk, hother _ hk]
  have sz : wz.heap.size = w9.heap.size := by rw [← hwz]; simp [World.setCell]
  have oz : wz.os = w9.os ∧ wz.tape = w9.tape ∧ wz.output = w9.output := by rw [← hwz]; exact ⟨rfl, rfl, rfl⟩
  rw [hwz]
  clear hwz
  have kl : ∀ k t, Typ wl k t → t ≠ 51 → wz.heap[k]? = wl.heap[k]? := fun k t hk hne' => (kz k (hk.ne (unhide HTHL) hne')).trans (unhide S11 k hk.lt (not_map (unhide HML) hk) (hk.ne (unhide HTHL) hne'))
  have zl : w.heap.size ≤ wl.heap.size := by omega
  have kw : ∀ k t, Typ w k t → t ≠ 51 → wz.heap[k]? = wl.heap[k]? := fun k t hk hne' => by
    obtain ⟨e8, c8, hm, _⟩ := (unhide H).own
    exact (kz k (hk.ne tHw hne')).trans (unhide S11 k (Nat.lt_of_lt_of_le hk.lt zl) (not_map hm hk) (hk.ne tHw hne'))
  have g1 := maj_rt (unhide S1) (unhide HR) kw
  have g2 : HpAt B wz hp mb (majP P M6.T (wrap64 (P.majors + 1))) (.slice none 0 0) (.slice none 0 0) vtl vfl (.slice none 0 0) := ⟨hz, World.ownsRow_nil _ _ _ _, World.ownsRow_nil _ _ _ _, owns_move (unhide S3).tpart.objs (fun j hj => kl j _ (owns_ty (unhide S3).tpart.objs hj) (by decide)), owns_move (unhide S3).tpart.flds (fun j hj => kl j _ (owns_ty (unhide S3).tpart.flds hj) (by decide)), World.ownsRow_nil _ _ _ _⟩
  have g3 : wz.ownsMap Try.prog 3 (plainElem Try.prog 3) mb n' (idsAll D M6.L) := by
    obtain ⟨e8, c8, h8, r8⟩ := unhide S8
    exact ⟨e8, c8, (kz mb hne).trans h8, r8⟩
  have g4 : n' ≤ n + (P.Y.length + P.O.length) := by
    have := unhide S9
    rw [hp0] at this
    simp [hpl, hpl1] at this
    omega
  have g5 := own_new (c := w.heap.size) (unhide HAA) (unhide S4) (by omega) (by omega)
  have g6 := own_new (c := w.heap.size) (unhide HBB) (unhide S5) (by omega) (by omega)
  have g7 : ∀ k, k < w.heap.size → k ≠ hp → k ≠ mb → ¬ rootB l k → wz.heap[k]? = w.heap[k]? := fun k hk h1 h2 h5 => by
    rw [kz k h1, unhide S11 k (Nat.lt_of_lt_of_le hk zl) h2 h1, (unhide S2).block k (unhide HO8 k hk) h5]
    exact unhide HU8 k hk
  have g8 : w.heap.size ≤ wz.heap.size := by
    have := (unhide S12).1
    omega
  have g9 : wz.os = w.os := oz.1.trans ((unhide S12).2.1.trans ((unhide S2).os.trans ((unhide HB68).os.trans ((unhide HFF).os.trans (unhide HB4).os))))
  have g10 : wz.tape = w.tape := oz.2.1.trans ((unhide S12).2.2.1.trans ((unhide S2).tape.trans ((unhide HB68).tape.trans ((unhide HFF).tape.trans (unhide HB4).tape))))
  have g11 : wz.output = w.output := oz.2.2.trans ((unhide S12).2.2.2.trans ((unhide S2).output.trans ((unhide HB68).output.trans ((unhide HFF).output.trans (unhide HB4).output))))
  exact ⟨M6, n', vtl, vfl, wrap64 (P.majors + 1), unhide HI6, unhide HC6, unhide HLL, unhide HFTM, unhide HM6E, unhide HWN, g1, g2, g3, g4, g5, g6, g7, g8, g9, g10, g11⟩
end Go.Proofs.Ytddfdefgdlfpmaa
