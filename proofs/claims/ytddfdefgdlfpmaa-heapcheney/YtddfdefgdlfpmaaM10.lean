/-
  A value is moved.
  A field of the part is gone through.
  mover.field, mover.roots, mover.rest.
-/
import Derived.Test.YtddfdefgdlfpmaaM09
namespace Go.Proofs.Ytddfdefgdlfpmaa
open Go.RowKit

theorem cell_off {w : World} {g i j : Nat} {u v : Value} (h : w.cell? ⟨g, j, none⟩ = some u) (hne : i ≠ j) : (w.setCell ⟨g, i, none⟩ v).cell? ⟨g, j, none⟩ = some u := by
  have := World.cell?_setCell_other w (a := ⟨g, i, none⟩) (b := ⟨g, j, none⟩) (v := v) (by intro e; cases e; exact hne rfl)
  exact this.trans h
theorem cell_off2 {w : World} {g i i' j : Nat} {u v v' : Value} (h : w.cell? ⟨g, j, none⟩ = some u) (hne : i ≠ j) (hne' : i' ≠ j) : ((w.setCell ⟨g, i, none⟩ v).setCell ⟨g, i', none⟩ v').cell? ⟨g, j, none⟩ = some u := cell_off (cell_off h hne) hne'
theorem set3 {w : World} {r : Nat} {t : TypeId} {x y z : Value} (h : w.heap[r]? = some (.cells #[x, y, z] t (0, 0))) (a b c : Value) : (((w.setCell ⟨r, 0, none⟩ a).setCell ⟨r, 1, none⟩ b).setCell ⟨r, 2, none⟩ c).heap[r]? = some (.cells #[a, b, c] t (0, 0)) := by
  rw [hset (hset (hset h 0 a) 1 b) 2 c]
  rfl
def hvV (v : HV) : Value := .agg #[.int .i64 v.kind, .int .i64 v.n, .string v.s]
theorem leaves_none {B : Nat} {w : World} {fb lb cb : Nat} {ls : List Lv} {L : List PL} (h : FromAt B w fb lb cb ls L) {a : Int} (ha : I64 a) (hq : leadsTo L 0 a = none) :
    Calls Try.prog 36 #[.int .i64 a, .pointer (some ⟨fb, 0, none⟩)] w fun e w' => e = .returned (.tuple #[.pointer none, .int .i64 0]) ∧ Below w.heap.size w w' :=
  (leaves_any h ha).mono fun e w' ⟨he, hb⟩ => ⟨by rw [he, hq]; rfl, hb⟩
theorem leaves_some {B : Nat} {w : World} {fb lb cb : Nat} {ls : List Lv} {L : List PL} (h : FromAt B w fb lb cb ls L) {a : Int} (ha : I64 a) {j i : Nat} {b : Lv} (hq : leadsTo L 0 a = some (j, i)) (hb : ls[j]? = some b) :
    Calls Try.prog 36 #[.int .i64 a, .pointer (some ⟨fb, 0, none⟩)] w fun e w' => e = .returned (.tuple #[.pointer (some ⟨b.l, 0, none⟩), .int .i64 i]) ∧ Below w.heap.size w w' :=
  (leaves_any h ha).mono fun e w' ⟨he, hb'⟩ => ⟨by rw [he, hq]; simp only [leadV, hb], hb'⟩
theorem PtAt.row {B : Nat} {w : World} {b o : Nat} {l : List HO} {vo vf : Value} (h : PtAt B w b o l vo vf) {i : Nat} {x : HO} (hx : l[i]? = some x) {g cap : Nat} (e : vf = .slice (some ⟨g, 0, none⟩) (allF l).length cap) :
    ∀ j u, (x.fs.flatMap vCells)[j]? = some u → w.cell? ((⟨g, beginAt l i * 3, none⟩ : Addr).add j) = some u := by
  intro j u hu
  have hj := (List.getElem?_eq_some_iff.1 hu).1
  rw [vals_length] at hj
  have hk : j / 3 < x.fs.length := by omega
  obtain ⟨v, hv⟩ : ∃ v, x.fs[j / 3]? = some v := ⟨_, List.getElem?_eq_getElem hk⟩
  obtain ⟨f0, f1, f2⟩ := h.fld hx hv e
  have hr : j % 3 < 3 := Nat.mod_lt _ (by decide)
  have hg := vals_get hv hr
  have hjj : j / 3 * 3 + j % 3 = j := by omega
  rw [hjj, hu] at hg
  rw [Addr.add_lit]
  have key : ∀ r, r < 3 → j % 3 = r → w.cell? ⟨g, beginAt l i * 3 + j, none⟩ = (vCells v)[r]? := by
    intro r hr3 e3
    match r, hr3 with
    | 0, _ => rw [show beginAt l i * 3 + j = beginAt l i * 3 + j / 3 * 3 by omega]; exact f0
    | 1, _ => rw [show beginAt l i * 3 + j = beginAt l i * 3 + j / 3 * 3 + 1 by omega]; exact f1
    | 2, _ => rw [show beginAt l i * 3 + j = beginAt l i * 3 + j / 3 * 3 + 2 by omega]; exact f2
  rw [key _ hr rfl]
  exact hg.symm
/-- What comes of a move. -/
def MovedPost (B : Nat) (m : Mb) (M : MS) (T : TypeId) (vto vtf : Value) (v : HV) (w : World) (e : Ending) (w' : World) : Prop :=
  e = .returned (hvV (moveV M v).2) ∧ FrM m vto vtf w w' ∧ ∃ cs' vto' vtf', MvAt B w' m (moveV M v).1 cs' T vto' vtf' ∧ (vto'.ownBlock = vto.ownBlock ∨ ∀ j, vto'.ownBlock = some j → w.heap.size ≤ j) ∧ (vtf'.ownBlock = vtf.ownBlock ∨ ∀ j, vtf'.ownBlock = some j → w.heap.size ≤ j)
theorem moved_stay {B : Nat} {m : Mb} {M : MS} {cs : Array Value} {T : TypeId} {vto vtf : Value} {v u : HV} {w w' : World} (h : MvAt B w m M cs T vto vtf) (he : moveV M v = (M, u)) (hb : Below w.heap.size w w') : MovedPost B m M T vto vtf v w (.returned (hvV u)) w' := by
  unfold MovedPost
  rw [he]
  exact ⟨rfl, FrM.of_below hb (hlt h.tpart.blk), cs, vto, vtf, h.keep hb, Or.inl rfl, Or.inl rfl⟩

set_option maxRecDepth 100000 in
set_option maxHeartbeats 8000000 in
theorem moved_any {B : Nat} {w : World} {m : Mb} {M : MS} {cs : Array Value} {T : TypeId} {vto vtf : Value} (h : MvAt B w m M cs T vto vtf) (v : HV) (hv : I64 v.n) (hbd : M.ft + 2 * M.T.length + 2 ≤ 4611686018427387904) (hft : 0 ≤ M.ft) (hfo : M.T.length + 1 ≤ 10000000) (hfw : ∀ q x, objAt M.L q = some x → goneTo M.L q = 0 → (allF M.T).length + x.fs.length ≤ 10000000) :
    Calls Try.prog 37 #[.pointer (some ⟨m.mv, 0, none⟩), hvV v] w fun e w' => MovedPost B m M T vto vtf v w e w' := by
  have H := hide h
  have HV := hide hv
  have HBD := hide hbd
  have HFT := hide hft
  have HFO := hide hfo
  have HFW := hide hfw
  clear h hv hbd hft hfo hfw
  obtain ⟨kd, n, s⟩ := v
  show Calls _ _ #[_, .agg #[.int .i64 kd, .int .i64 n, .string s]] _ _
  obtain ⟨w0, hw0⟩ : ∃ w0, (w.alloc (.cells #[.int .i64 kd, .int .i64 n, .string s] 34)).alloc (.cells #[.int .i64 0, .int .i64 0, .string ⟨#[]⟩] 34) = w0 := ⟨_, rfl⟩
  have hb0 : Below w.heap.size w w0 := by rw [← hw0]; exact ((Below.refl _ _).alloc (Nat.le_refl _) _).alloc (by simp) _
  have hk0 : w0.heap[w.heap.size]? = some (.cells #[.int .i64 kd, .int .i64 n, .string s] 34 (0, 0)) := by
    rw [← hw0]
    exact (Below.heap_alloc _ _ _ (by simp)).trans (hnew _ _)
  have hk1 : w0.heap[w.heap.size + 1]? = some (.cells #[.int .i64 0, .int .i64 0, .string ⟨#[]⟩] 34 (0, 0)) := by
    rw [← hw0]
    exact hnewAt _ _ (by simp)
  have a0 := hcell hk0 0
  have a1 := hcell hk0 1
  have a2 := hcell hk0 2
  have HB0 := hide hb0
  have HK0 := hide hk0
  have HK1 := hide hk1
  clear hb0 hk0 hk1
  by_cases hk : kd = 4
  · subst hk
    go_enter Try.func37, Try.ntmps37
    go_wp2_with fail
    have m1 := (unhide H).m1
    have b1 := cellk (unhide HB0) m1 (cell_lt m1)
    clear m1
    cases hq : leadsTo M.L 0 n with
    | none =>
      have HQ := hide hq
      clear hq
      go_region_held3 (fun w' => w'.cell? ⟨m.mv, 1, none⟩ = some (.func (.func 36) #[] #[.pointer (some ⟨m.fb, 0, none⟩)]) ∧ w'.cell? ⟨w.heap.size, 1, none⟩ = some (.int .i64 n)) (go_keep)
        ((go_at_call 36; refine (leaves_none ((unhide H).fr.keep ((unhide HB0).drew)) (unhide HV) (unhide HQ)).mono ?_; rintro e w1 ⟨rfl, hb1⟩; have k1 := cellk hb1 b1 (cell_lt b1); have k2 := cellk hb1 a1 (cell_lt a1); have k0 := cellk hb1 a0 (cell_lt a0); have k3 := cellk hb1 a2 (cell_lt a2); have HB1 := hide ((unhide HB0).drew.trans (hb1.mono (unhide HB0).size)); have HK11 := hide ((hb1.block _ (hlt (unhide HK1))).trans (unhide HK1)); have HK01 := hide ((hb1.block _ (hlt (unhide HK0))).trans (unhide HK0)); clear hb1))
      all_goals
        have r0 := hcell (unhide HK11) 0
        have r1 := fun u => cell_off (v := u) (i := 0) (hcell (unhide HK11) 1) (by decide)
        have r2 := fun u u' => cell_off2 (v := u) (v' := u') (i := 0) (i' := 1) (hcell (unhide HK11) 2) (by decide) (by decide)
        have z0 := hfroz (unhide HK11) 0
        have z1 := hfroz (unhide HK11) 1
        have z2 := hfroz (unhide HK11) 2
        go_wp2_with fail
        have hk3 := set3 (unhide HK11) (.int .i64 4) (.int .i64 n) (.string s)
        have f0 := hcell hk3 0
        have f1 := hcell hk3 1
        have f2 := hcell hk3 2
        refine bodyPost_ret (v := .agg #[.int .i64 4, .int .i64 n, .string s]) (by simp [results, Try.results37, f0, f1, f2, go_sem]) rfl ?_
        exact moved_stay (u := ⟨4, n, s⟩) (unhide H) (by unfold moveV; rw [if_neg (by simp)]; simp only [unhide HQ]) ((((unhide HB1).setCell (by simp) _).setCell (by simp) _).setCell (by simp) _)
    | some q =>
      obtain ⟨j, i⟩ := q
      obtain ⟨p, x, hp, hx, hob, hn⟩ := leadsTo_at hq
      have hp : M.L[j]? = some p := hp
      have hx : p.objs[i]? = some x := hx
      have hlj : j < m.ls.length := by rw [(unhide H).fr.len]; exact (List.getElem?_eq_some_iff.1 hp).1
      obtain ⟨b, hb⟩ : ∃ b, m.ls[j]? = some b := ⟨_, List.getElem?_eq_getElem hlj⟩
      have HQ := hide hq
      have HP := hide hp
      have HX := hide hx
      have HBB := hide hb
      have HN := hide hn
      have HOB := hide hob
      clear hq hp hx hb hn hob hlj
      go_region_held3 (fun w' => w'.cell? ⟨m.mv, 1, none⟩ = some (.func (.func 36) #[] #[.pointer (some ⟨m.fb, 0, none⟩)]) ∧ w'.cell? ⟨w.heap.size, 1, none⟩ = some (.int .i64 n)) (go_keep)
        ((go_at_call 36; refine (leaves_some ((unhide H).fr.keep ((unhide HB0).drew)) (unhide HV) (unhide HQ) (unhide HBB)).mono ?_; rintro e w1 ⟨rfl, hb1⟩; have k1 := cellk hb1 b1 (cell_lt b1); have k2 := cellk hb1 a1 (cell_lt a1); have k0 := cellk hb1 a0 (cell_lt a0); have k3 := cellk hb1 a2 (cell_lt a2); have HB1 := hide ((unhide HB0).drew.trans (hb1.mono (unhide HB0).size)); have HK11 := hide ((hb1.block _ (hlt (unhide HK1))).trans (unhide HK1)); have HK01 := hide ((hb1.block _ (hlt (unhide HK0))).trans (unhide HK0)); clear hb1))
      all_goals
        have HLV := hide (((unhide H).keep (unhide HB1)).fr.lvs j b p (unhide HBB) (unhide HP))
        have l1 := (unhide HLV).c1
        have hil : i < p.objs.length := (List.getElem?_eq_some_iff.1 (unhide HX)).1
        have hwl : i < p.went.length := by rw [(unhide HLV).full]; exact hil
        obtain ⟨g0, hg0⟩ : ∃ g0, p.went[i]? = some g0 := ⟨_, List.getElem?_eq_getElem hwl⟩
        have l2 : w1.cell? ⟨b.wb, i, none⟩ = some (.int .i64 g0) := by
          rw [hcell (unhide HLV).wn]
          simp [hg0, iv]
        have HG : Hid (goneTo M.L (j, i) = g0) := by
          show goneTo M.L (j, i) = g0
          simp [goneTo, unhide HP, hg0]
        have hil2 : (i : Int) < (p.objs.length : Int) := by omega
        clear hg0 hwl hil
        by_cases hg : g0 = 0
        · subst hg
          have HM1 := hide ((unhide H).keep (unhide HB1))
          obtain ⟨gO, cO, hvo, o0, o1, o2, o3, o4, o5⟩ := (unhide HLV).pt.obj (unhide HX)
          have HVO := hide hvo
          have l0 := (unhide HLV).c0
          have mm := (unhide HM1).m0
          have oc := (unhide HLV).pt.c1
          rw [hvo] at oc
          have hbm : b ∈ m.ls := List.mem_of_getElem? (unhide HBB)
          have wT := (unhide HM1).wb_ty hbm
          have n1 : b.wb ≠ b.l := wT.ne ((unhide HM1).yl b hbm) (by decide)
          have n2 : b.wb ≠ m.mv := wT.ne (unhide HM1).ymv (by decide)
          have n3 : b.wb ≠ b.pb := by
            obtain ⟨t, t1, t2⟩ := (unhide HM1).yp b hbm
            exact wT.ne t2 (partT_ne t1).2.2.1.symm
          have n4 : b.wb ≠ gO := wT.ne (owns_ty (j := gO) (unhide HLV).pt.objs (by rw [hvo]; rfl)) (by decide)
          have n5 : b.wb < w1.heap.size := wT.lt
          have HWI : Hid (p.went[i]? = some 0) := by
            show p.went[i]? = some 0
            have hwl : i < p.went.length := by rw [(unhide HLV).full]; omega
            have hgg := unhide HG
            simp only [goneTo, unhide HP, Option.bind_some] at hgg
            rw [List.getElem?_eq_getElem hwl] at hgg ⊢
            simpa using hgg
          have hbg : ((0 : Int) == 0) = true := rfl
          clear hvo hbm wT
          go_wp2_with fail
          by_cases hxe : x.fs = []
          · have HXE := hide hxe
            have hx0 : x.fs.length = 0 := by rw [hxe]; rfl
            rw [hx0] at o4
            go_region_held3 (fun w' => w'.cell? ⟨b.l, 1, none⟩ = some (.slice (some ⟨b.wb, 0, none⟩) p.objs.length p.objs.length) ∧ w'.cell? ⟨m.mv, 0, none⟩ = some (.pointer (some ⟨m.tb, m.tp, none⟩)) ∧ w'.cell? ⟨b.l, 0, none⟩ = some (.pointer (some ⟨b.pb, b.po, none⟩)) ∧ w'.cell? ⟨b.pb, b.po + 1, none⟩ = some (.slice (some ⟨gO, 0, none⟩) p.objs.length cO) ∧ w'.cell? ⟨gO, i * 6, none⟩ = some (.int .i64 x.kind) ∧ w'.cell? ⟨gO, i * 6 + 1, none⟩ = some (.int .i64 x.tag) ∧ w'.cell? ⟨gO, i * 6 + 2, none⟩ = some (.int .i64 x.id) ∧ w'.cell? ⟨gO, i * 6 + 3, none⟩ = some (.int .i64 (beginAt p.objs i)) ∧ w'.cell? ⟨gO, i * 6 + 4, none⟩ = some (.int .i64 0) ∧ w'.cell? ⟨gO, i * 6 + 5, none⟩ = some (.bool x.noted)) (go_keep)
              (first
                | (go_at_call 22; refine (has_any ((unhide HLV).pt.keep (Below.drew (Below.refl _ _))) (unhide HX)).mono ?_; rintro e w2 ⟨hb2, g', cap', rfl, hcap, hfs⟩; rw [hx0]; have tl1 := cellk hb2 l1 (cell_lt l1); have tmm := cellk hb2 mm (cell_lt mm); have tl0 := cellk hb2 l0 (cell_lt l0); have toc := cellk hb2 oc (cell_lt oc); have to0 := cellk hb2 o0 (cell_lt o0); have to1 := cellk hb2 o1 (cell_lt o1); have to2 := cellk hb2 o2 (cell_lt o2); have to3 := cellk hb2 o3 (cell_lt o3); have to4 := cellk hb2 o4 (cell_lt o4); have to5 := cellk hb2 o5 (cell_lt o5); have HM2 := hide (((unhide HM1).keep (Below.drew (Below.refl _ _))).keep hb2); have HLV2 := hide (((unhide HLV).keep (Below.drew (Below.refl _ _))).keep hb2); have HB2 := hide hb2; clear hb2 hcap hfs)
                | (go_at_call 18; refine (add_none (unhide HM2).tpart (unhide HM2).hB { x with noted := false } (unhide HXE) rfl (beginAt p.objs i) x.noted (unhide HFT) (unhide HBD) (unhide HFO) (unhide HM2).sz).mono ?_; rintro e w3 ⟨rfl, vo', vf', hP, hF, e1, e2⟩; have hfr := add_frame (unhide HM2) hP hF (List.mem_of_getElem? (unhide HBB)) (unhide HLV2); have ul1 := (World.cell?_of_block hfr.2.1).trans tl1; have umm := (World.cell?_of_block hfr.1).trans tmm; have ul0 := (World.cell?_of_block hfr.2.1).trans tl0; have uoc := (hfr.2.2.2.1 1 (by omega)).trans toc; have uo0 := (World.cell?_of_block (hfr.2.2.2.2 gO (by rw [unhide HVO]; rfl))).trans to0; have uo1 := (World.cell?_of_block (hfr.2.2.2.2 gO (by rw [unhide HVO]; rfl))).trans to1; have uo2 := (World.cell?_of_block (hfr.2.2.2.2 gO (by rw [unhide HVO]; rfl))).trans to2; have uo3 := (World.cell?_of_block (hfr.2.2.2.2 gO (by rw [unhide HVO]; rfl))).trans to3; have uo4 := (World.cell?_of_block (hfr.2.2.2.2 gO (by rw [unhide HVO]; rfl))).trans to4; have uo5 := (World.cell?_of_block (hfr.2.2.2.2 gO (by rw [unhide HVO]; rfl))).trans to5; have HW3 := hide (hfr.2.2.1.trans (unhide HLV2).wn); have s0 := hcell (unhide HW3) i; rw [show ((p.went.map iv).toArray)[i]? = some (.int .i64 0) by simp [unhide HWI, iv]] at s0; have s1 := hfroz (unhide HW3) i; have HP3 := hide hP; have HF3 := hide hF; have HE1 := hide e1; have HE2 := hide e2; clear hP hF e1 e2 hfr))
            all_goals
              have HMV := hide (move_mem (q := (j, i)) (unhide HM2) (unhide HBB) (unhide HP) (unhide HP3) (unhide HF3) (unhide HE1) (unhide HE2) (M.ft + 2 * (M.T.length : Int)))
              obtain ⟨w4, hw4⟩ : ∃ w4, w3.setCell ⟨b.wb, i, none⟩ (.int .i64 (M.ft + 2 * (M.T.length : Int))) = w4 := ⟨_, rfl⟩
              have HW4 := hide hw4
              rw [hw4]
              have HMW : Hid (MvAt B w4 m { M with T := M.T ++ [{ x with noted := false }], L := setGone M.L (j, i) (M.ft + 2 * (M.T.length : Int)) } ((cs.setIfInBounds (m.tp + 1) vo').setIfInBounds (m.tp + 2) vf') T vo' vf' ∧ FrM m vto vtf w2 w4) := by
                rw [← hw4]
                exact unhide HMV
              have HLV4 := hide ((unhide HMW).1.fr.lvs j b _ (unhide HBB) (setGone_at (unhide HP)))
              have v1 := (unhide HLV4).c1
              have v2 : w4.cell? ⟨b.wb, i, none⟩ = some (.int .i64 (M.ft + 2 * (M.T.length : Int))) := by
                rw [← hw4]
                exact World.cell?_setCell_same _ _ _ s0
              have v1' : w4.cell? ⟨b.l, 1, none⟩ = some (.slice (some ⟨b.wb, 0, none⟩) p.objs.length p.objs.length) := by simpa using v1
              have q1 : w.heap.size < w1.heap.size := hlt (unhide HK01)
              have q2 : w.heap.size + 1 < w1.heap.size := hlt (unhide HK11)
              have q3 : m.tb < w.heap.size := hlt (unhide H).tpart.blk
              have q4 : w1.heap.size ≤ w2.heap.size := (unhide HB2).size
              have q5 : b.wb < w.heap.size := ((unhide H).wb_ty (List.mem_of_getElem? (unhide HBB))).lt
              have q6 : ∀ k, w.heap.size ≤ k → vto.ownBlock ≠ some k := fun k hk e => by have := (owns_ty (unhide H).tpart.objs e).lt; omega
              have q7 : ∀ k, w.heap.size ≤ k → vtf.ownBlock ≠ some k := fun k hk e => by have := (owns_ty (unhide H).tpart.flds e).lt; omega
              have up : ∀ k, w.heap.size ≤ k → k < w1.heap.size → w4.heap[k]? = w1.heap[k]? := fun k hk hl => by
                rw [← hw4, hother _ (by omega), (unhide HF3).block k (by omega) (by omega) (q6 k hk) (q7 k hk)]
                exact (unhide HB2).block k hl
              have HK04 := hide ((up _ (Nat.le_refl _) q1).trans (unhide HK01))
              have HK14 := hide ((up _ (by omega) q2).trans (unhide HK11))
              have HQ3 := hide q3
              have g1 := hcell (unhide HK04) 1
              have HQ4 := hide (Nat.lt_of_lt_of_le q2 q4)
              clear HMV hw4 v1 q1 q2 q3 q4 q5 q6 q7 up s0 s1 n1 n2 n3 n4 n5
              obtain ⟨w5, hw5⟩ : ∃ w5, w4.setCell ⟨w.heap.size, 1, none⟩ (.int .i64 (M.ft + 2 * (M.T.length : Int))) = w5 := ⟨_, rfl⟩
              have hk02 : w5.heap[w.heap.size]? = some (.cells #[.int .i64 4, .int .i64 (M.ft + 2 * (M.T.length : Int)), .string s] 34 (0, 0)) := by rw [← hw5, hset (unhide HK04) 1]; rfl
              have hk12 : w5.heap[w.heap.size + 1]? = some (.cells #[.int .i64 0, .int .i64 0, .string ⟨#[]⟩] 34 (0, 0)) := by rw [← hw5]; exact (hother _ (by omega)).trans (unhide HK14)
              have y1 := hfroz (unhide HK04) 1
              have e0 := hcell hk02 0
              have e1 := hcell hk02 1
              have e2 := hcell hk02 2
              have r0 := hcell hk12 0
              have r1 := fun u => cell_off (v := u) (i := 0) (hcell hk12 1) (by decide)
              have r2 := fun u u' => cell_off2 (v := u) (v' := u') (i := 0) (i' := 1) (hcell hk12 2) (by decide) (by decide)
              have z0 := hfroz hk12 0
              have z1 := hfroz hk12 1
              have z2 := hfroz hk12 2
              have HK12 := hide hk12
              clear hk02 hk12
              go_wp2_with fail
              have hk3 := set3 (unhide HK12) (.int .i64 4) (.int .i64 (M.ft + 2 * (M.T.length : Int))) (.string s)
              have f0 := hcell hk3 0
              have f1 := hcell hk3 1
              have f2 := hcell hk3 2
              refine bodyPost_ret (v := .agg #[.int .i64 4, .int .i64 (M.ft + 2 * (M.T.length : Int)), .string s]) (by simp [results, Try.results37, f0, f1, f2, go_sem]) rfl ?_
              have hmv : moveV M ⟨4, n, s⟩ = ({ M with T := M.T ++ [{ x with noted := false }], L := setGone M.L (j, i) (M.ft + 2 * (M.T.length : Int)) }, ⟨4, M.ft + 2 * (M.T.length : Int), s⟩) := by
                unfold moveV
                rw [if_neg (by simp)]
                simp only [unhide HQ, unhide HG, unhide HOB]
                rfl
              have hz5 : w5.heap.size = w4.heap.size := by rw [← hw5]; simp [World.setCell]
              have hb5 : ∀ k, k ≠ w.heap.size → k ≠ w.heap.size + 1 → ((((w5.setCell ⟨w.heap.size + 1, 0, none⟩ (.int .i64 4)).setCell ⟨w.heap.size + 1, 1, none⟩ (.int .i64 (M.ft + 2 * (M.T.length : Int)))).setCell ⟨w.heap.size + 1, 2, none⟩ (.string s))).heap[k]? = w4.heap[k]? := fun k h1 h2 => by
                rw [hother _ h2, hother _ h2, hother _ h2, ← hw5, hother _ h1]
              have hz : w.heap.size + 1 < w4.heap.size := Nat.lt_of_lt_of_le (unhide HQ4) (unhide HMW).2.size
              have lo1 : vo'.ownBlock = vto.ownBlock ∨ ∀ j, vo'.ownBlock = some j → w.heap.size + 2 ≤ j := by
                rcases unhide HE1 with e | e
                · exact Or.inl e
                · exact Or.inr fun j hj => by have := e j hj; have := unhide HQ4; omega
              have lo2 : vf'.ownBlock = vtf.ownBlock ∨ ∀ j, vf'.ownBlock = some j → w.heap.size + 2 ≤ j := by
                rcases unhide HE2 with e | e
                · exact Or.inl e
                · exact Or.inr fun j hj => by have := e j hj; have := unhide HQ4; omega
              unfold MovedPost
              rw [hmv]
              refine ⟨rfl, ?_, _, vo', vf', (unhide HMW).1.except (fun k => k = w.heap.size ∨ k = w.heap.size + 1) (by simp [World.setCell, hz5]) (fun k _ hn => hb5 k (fun e => hn (Or.inl e)) (fun e => hn (Or.inr e))) (fun k hk => ?_) (fun j' hj' hk => ?_) (fun b' hb' j' hj' hk => ?_), ?_, ?_⟩
              · have f1 : FrM m vto vtf w w2 := FrM.of_below ((unhide HB1).trans ((Below.drew (Below.refl _ _)).trans (unhide HB2) |>.mono (unhide HB1).size)) (unhide HQ3)
                have f2 := f1.trans (unhide HMW).2 (Or.inl rfl) (Or.inl rfl)
                exact f2.later (by simp [World.setCell, hz5]) (by rw [← hw5]; rfl) (by rw [← hw5]; rfl) (by rw [← hw5]; rfl) (unhide HQ3) (fun k hk => hb5 k (by omega) (by omega))
              · rcases hk with rfl | rfl
                · exact ⟨_, _, unhide HK04⟩
                · exact ⟨_, _, unhide HK14⟩
              · rcases lo2 with e | e
                · have := (owns_ty (unhide H).tpart.flds (e ▸ hj')).lt
                  omega
                · have := e j' hj'
                  omega
              · obtain ⟨a9, ha9⟩ := List.getElem?_of_mem hb'
                have hl9 : a9 < M.L.length := by rw [← (unhide H).fr.len]; exact (List.getElem?_eq_some_iff.1 ha9).1
                have := (owns_ty ((unhide H).fr.lvs a9 b' _ ha9 (List.getElem?_eq_getElem hl9)).pt.flds hj').lt
                omega
              · rcases lo1 with e | e
                · exact Or.inl e
                · exact Or.inr fun j hj => by have := e j hj; omega
              · rcases lo2 with e | e
                · exact Or.inl e
                · exact Or.inr fun j hj => by have := e j hj; omega
          · have hxp : 0 < x.fs.length := by
              cases hf : x.fs with
              | nil => exact absurd hf hxe
              | cons _ _ => simp
            have HXP := hide hxp
            clear hxe
            go_region_held3 (fun w' => w'.cell? ⟨b.l, 1, none⟩ = some (.slice (some ⟨b.wb, 0, none⟩) p.objs.length p.objs.length) ∧ w'.cell? ⟨m.mv, 0, none⟩ = some (.pointer (some ⟨m.tb, m.tp, none⟩)) ∧ w'.cell? ⟨b.l, 0, none⟩ = some (.pointer (some ⟨b.pb, b.po, none⟩)) ∧ w'.cell? ⟨b.pb, b.po + 1, none⟩ = some (.slice (some ⟨gO, 0, none⟩) p.objs.length cO) ∧ w'.cell? ⟨gO, i * 6, none⟩ = some (.int .i64 x.kind) ∧ w'.cell? ⟨gO, i * 6 + 1, none⟩ = some (.int .i64 x.tag) ∧ w'.cell? ⟨gO, i * 6 + 2, none⟩ = some (.int .i64 x.id) ∧ w'.cell? ⟨gO, i * 6 + 3, none⟩ = some (.int .i64 (beginAt p.objs i)) ∧ w'.cell? ⟨gO, i * 6 + 4, none⟩ = some (.int .i64 x.fs.length) ∧ w'.cell? ⟨gO, i * 6 + 5, none⟩ = some (.bool x.noted)) (go_keep)
              (first
                | (go_at_call 22; refine (has_any ((unhide HLV).pt.keep (Below.drew (Below.refl _ _))) (unhide HX)).mono ?_; rintro e w2 ⟨hb2, g', cap', rfl, hcap, hfs⟩; obtain ⟨gf, cf, hvf, rfl, rfl⟩ := hfs (unhide HXP); have HVF := hide hvf; clear hvf; have tl1 := cellk hb2 l1 (cell_lt l1); have tmm := cellk hb2 mm (cell_lt mm); have tl0 := cellk hb2 l0 (cell_lt l0); have toc := cellk hb2 oc (cell_lt oc); have to0 := cellk hb2 o0 (cell_lt o0); have to1 := cellk hb2 o1 (cell_lt o1); have to2 := cellk hb2 o2 (cell_lt o2); have to3 := cellk hb2 o3 (cell_lt o3); have to4 := cellk hb2 o4 (cell_lt o4); have to5 := cellk hb2 o5 (cell_lt o5); have HM2 := hide (((unhide HM1).keep (Below.drew (Below.refl _ _))).keep hb2); have HLV2 := hide (((unhide HLV).keep (Below.drew (Below.refl _ _))).keep hb2); have HB2 := hide hb2; clear hb2 hcap hfs)
                | (go_at_call 18; refine (add_any (unhide HM2).tpart (unhide HM2).hB { x with noted := false } (unhide HXP) rfl (beginAt p.objs i) x.noted (PtAt.row (unhide HLV2).pt (unhide HX) (unhide HVF)) (by obtain ⟨c9, f9, g9⟩ := owns_ty (j := gf) (unhide HLV2).pt.flds (by rw [unhide HVF]; rfl); exact ⟨c9, f9, g9⟩) (unhide HFT) (unhide HBD) (unhide HFW (j, i) x (unhide HOB) (unhide HG)) (unhide HFO) (unhide HM2).sz).mono ?_; rintro e w3 ⟨rfl, vo', vf', hP, hF, e1, e2⟩; have hfr := add_frame (unhide HM2) hP hF (List.mem_of_getElem? (unhide HBB)) (unhide HLV2); have ul1 := (World.cell?_of_block hfr.2.1).trans tl1; have umm := (World.cell?_of_block hfr.1).trans tmm; have ul0 := (World.cell?_of_block hfr.2.1).trans tl0; have uoc := (hfr.2.2.2.1 1 (by omega)).trans toc; have uo0 := (World.cell?_of_block (hfr.2.2.2.2 gO (by rw [unhide HVO]; rfl))).trans to0; have uo1 := (World.cell?_of_block (hfr.2.2.2.2 gO (by rw [unhide HVO]; rfl))).trans to1; have uo2 := (World.cell?_of_block (hfr.2.2.2.2 gO (by rw [unhide HVO]; rfl))).trans to2; have uo3 := (World.cell?_of_block (hfr.2.2.2.2 gO (by rw [unhide HVO]; rfl))).trans to3; have uo4 := (World.cell?_of_block (hfr.2.2.2.2 gO (by rw [unhide HVO]; rfl))).trans to4; have uo5 := (World.cell?_of_block (hfr.2.2.2.2 gO (by rw [unhide HVO]; rfl))).trans to5; have HW3 := hide (hfr.2.2.1.trans (unhide HLV2).wn); have s0 := hcell (unhide HW3) i; rw [show ((p.went.map iv).toArray)[i]? = some (.int .i64 0) by simp [unhide HWI, iv]] at s0; have s1 := hfroz (unhide HW3) i; have HP3 := hide hP; have HF3 := hide hF; have HE1 := hide e1; have HE2 := hide e2; clear hP hF e1 e2 hfr))
            all_goals
              have HMV := hide (move_mem (q := (j, i)) (unhide HM2) (unhide HBB) (unhide HP) (unhide HP3) (unhide HF3) (unhide HE1) (unhide HE2) (M.ft + 2 * (M.T.length : Int)))
              obtain ⟨w4, hw4⟩ : ∃ w4, w3.setCell ⟨b.wb, i, none⟩ (.int .i64 (M.ft + 2 * (M.T.length : Int))) = w4 := ⟨_, rfl⟩
              have HW4 := hide hw4
              rw [hw4]
              have HMW : Hid (MvAt B w4 m { M with T := M.T ++ [{ x with noted := false }], L := setGone M.L (j, i) (M.ft + 2 * (M.T.length : Int)) } ((cs.setIfInBounds (m.tp + 1) vo').setIfInBounds (m.tp + 2) vf') T vo' vf' ∧ FrM m vto vtf w2 w4) := by
                rw [← hw4]
                exact unhide HMV
              have HLV4 := hide ((unhide HMW).1.fr.lvs j b _ (unhide HBB) (setGone_at (unhide HP)))
              have v1 := (unhide HLV4).c1
              have v2 : w4.cell? ⟨b.wb, i, none⟩ = some (.int .i64 (M.ft + 2 * (M.T.length : Int))) := by
                rw [← hw4]
                exact World.cell?_setCell_same _ _ _ s0
              have v1' : w4.cell? ⟨b.l, 1, none⟩ = some (.slice (some ⟨b.wb, 0, none⟩) p.objs.length p.objs.length) := by simpa using v1
              have q1 : w.heap.size < w1.heap.size := hlt (unhide HK01)
              have q2 : w.heap.size + 1 < w1.heap.size := hlt (unhide HK11)
              have q3 : m.tb < w.heap.size := hlt (unhide H).tpart.blk
              have q4 : w1.heap.size ≤ w2.heap.size := (unhide HB2).size
              have q5 : b.wb < w.heap.size := ((unhide H).wb_ty (List.mem_of_getElem? (unhide HBB))).lt
              have q6 : ∀ k, w.heap.size ≤ k → vto.ownBlock ≠ some k := fun k hk e => by have := (owns_ty (unhide H).tpart.objs e).lt; omega
              have q7 : ∀ k, w.heap.size ≤ k → vtf.ownBlock ≠ some k := fun k hk e => by have := (owns_ty (unhide H).tpart.flds e).lt; omega
              have up : ∀ k, w.heap.size ≤ k → k < w1.heap.size → w4.heap[k]? = w1.heap[k]? := fun k hk hl => by
                rw [← hw4, hother _ (by omega), (unhide HF3).block k (by omega) (by omega) (q6 k hk) (q7 k hk)]
                exact (unhide HB2).block k hl
              have HK04 := hide ((up _ (Nat.le_refl _) q1).trans (unhide HK01))
              have HK14 := hide ((up _ (by omega) q2).trans (unhide HK11))
              have HQ3 := hide q3
              have g1 := hcell (unhide HK04) 1
              have HQ4 := hide (Nat.lt_of_lt_of_le q2 q4)
              clear HMV hw4 v1 q1 q2 q3 q4 q5 q6 q7 up s0 s1 n1 n2 n3 n4 n5
              obtain ⟨w5, hw5⟩ : ∃ w5, w4.setCell ⟨w.heap.size, 1, none⟩ (.int .i64 (M.ft + 2 * (M.T.length : Int))) = w5 := ⟨_, rfl⟩
              have hk02 : w5.heap[w.heap.size]? = some (.cells #[.int .i64 4, .int .i64 (M.ft + 2 * (M.T.length : Int)), .string s] 34 (0, 0)) := by rw [← hw5, hset (unhide HK04) 1]; rfl
              have hk12 : w5.heap[w.heap.size + 1]? = some (.cells #[.int .i64 0, .int .i64 0, .string ⟨#[]⟩] 34 (0, 0)) := by rw [← hw5]; exact (hother _ (by omega)).trans (unhide HK14)
              have y1 := hfroz (unhide HK04) 1
              have e0 := hcell hk02 0
              have e1 := hcell hk02 1
              have e2 := hcell hk02 2
              have r0 := hcell hk12 0
              have r1 := fun u => cell_off (v := u) (i := 0) (hcell hk12 1) (by decide)
              have r2 := fun u u' => cell_off2 (v := u) (v' := u') (i := 0) (i' := 1) (hcell hk12 2) (by decide) (by decide)
              have z0 := hfroz hk12 0
              have z1 := hfroz hk12 1
              have z2 := hfroz hk12 2
              have HK12 := hide hk12
              clear hk02 hk12
              go_wp2_with fail
              have hk3 := set3 (unhide HK12) (.int .i64 4) (.int .i64 (M.ft + 2 * (M.T.length : Int))) (.string s)
              have f0 := hcell hk3 0
              have f1 := hcell hk3 1
              have f2 := hcell hk3 2
              refine bodyPost_ret (v := .agg #[.int .i64 4, .int .i64 (M.ft + 2 * (M.T.length : Int)), .string s]) (by simp [results, Try.results37, f0, f1, f2, go_sem]) rfl ?_
              have hmv : moveV M ⟨4, n, s⟩ = ({ M with T := M.T ++ [{ x with noted := false }], L := setGone M.L (j, i) (M.ft + 2 * (M.T.length : Int)) }, ⟨4, M.ft + 2 * (M.T.length : Int), s⟩) := by
                unfold moveV
                rw [if_neg (by simp)]
                simp only [unhide HQ, unhide HG, unhide HOB]
                rfl
              have hz5 : w5.heap.size = w4.heap.size := by rw [← hw5]; simp [World.setCell]
              have hb5 : ∀ k, k ≠ w.heap.size → k ≠ w.heap.size + 1 → ((((w5.setCell ⟨w.heap.size + 1, 0, none⟩ (.int .i64 4)).setCell ⟨w.heap.size + 1, 1, none⟩ (.int .i64 (M.ft + 2 * (M.T.length : Int)))).setCell ⟨w.heap.size + 1, 2, none⟩ (.string s))).heap[k]? = w4.heap[k]? := fun k h1 h2 => by
                rw [hother _ h2, hother _ h2, hother _ h2, ← hw5, hother _ h1]
              have hz : w.heap.size + 1 < w4.heap.size := Nat.lt_of_lt_of_le (unhide HQ4) (unhide HMW).2.size
              have lo1 : vo'.ownBlock = vto.ownBlock ∨ ∀ j, vo'.ownBlock = some j → w.heap.size + 2 ≤ j := by
                rcases unhide HE1 with e | e
                · exact Or.inl e
                · exact Or.inr fun j hj => by have := e j hj; have := unhide HQ4; omega
              have lo2 : vf'.ownBlock = vtf.ownBlock ∨ ∀ j, vf'.ownBlock = some j → w.heap.size + 2 ≤ j := by
                rcases unhide HE2 with e | e
                · exact Or.inl e
                · exact Or.inr fun j hj => by have := e j hj; have := unhide HQ4; omega
              unfold MovedPost
              rw [hmv]
              refine ⟨rfl, ?_, _, vo', vf', (unhide HMW).1.except (fun k => k = w.heap.size ∨ k = w.heap.size + 1) (by simp [World.setCell, hz5]) (fun k _ hn => hb5 k (fun e => hn (Or.inl e)) (fun e => hn (Or.inr e))) (fun k hk => ?_) (fun j' hj' hk => ?_) (fun b' hb' j' hj' hk => ?_), ?_, ?_⟩
              · have f1 : FrM m vto vtf w w2 := FrM.of_below ((unhide HB1).trans ((Below.drew (Below.refl _ _)).trans (unhide HB2) |>.mono (unhide HB1).size)) (unhide HQ3)
                have f2 := f1.trans (unhide HMW).2 (Or.inl rfl) (Or.inl rfl)
                exact f2.later (by simp [World.setCell, hz5]) (by rw [← hw5]; rfl) (by rw [← hw5]; rfl) (by rw [← hw5]; rfl) (unhide HQ3) (fun k hk => hb5 k (by omega) (by omega))
              · rcases hk with rfl | rfl
                · exact ⟨_, _, unhide HK04⟩
                · exact ⟨_, _, unhide HK14⟩
              · rcases lo2 with e | e
                · have := (owns_ty (unhide H).tpart.flds (e ▸ hj')).lt
                  omega
                · have := e j' hj'
                  omega
              · obtain ⟨a9, ha9⟩ := List.getElem?_of_mem hb'
                have hl9 : a9 < M.L.length := by rw [← (unhide H).fr.len]; exact (List.getElem?_eq_some_iff.1 ha9).1
                have := (owns_ty ((unhide H).fr.lvs a9 b' _ ha9 (List.getElem?_eq_getElem hl9)).pt.flds hj').lt
                omega
              · rcases lo1 with e | e
                · exact Or.inl e
                · exact Or.inr fun j hj => by have := e j hj; omega
              · rcases lo2 with e | e
                · exact Or.inl e
                · exact Or.inr fun j hj => by have := e j hj; omega
        · have hbg : (g0 == 0) = false := by rw [beq_eq_false_iff_ne]; exact hg
          have HG0 := hide hg
          clear hg
          obtain ⟨w2, hw2⟩ : ∃ w2, w1.setCell ⟨w.heap.size, 1, none⟩ (.int .i64 g0) = w2 := ⟨_, rfl⟩
          have hk02 : w2.heap[w.heap.size]? = some (.cells #[.int .i64 4, .int .i64 g0, .string s] 34 (0, 0)) := by rw [← hw2, hset (unhide HK01) 1]; rfl
          have hk12 : w2.heap[w.heap.size + 1]? = some (.cells #[.int .i64 0, .int .i64 0, .string ⟨#[]⟩] 34 (0, 0)) := by rw [← hw2]; exact (hother _ (by omega)).trans (unhide HK11)
          have y1 := hfroz (unhide HK01) 1
          have e0 := hcell hk02 0
          have e1 := hcell hk02 1
          have e2 := hcell hk02 2
          have r0 := hcell hk12 0
          have r1 := fun u => cell_off (v := u) (i := 0) (hcell hk12 1) (by decide)
          have r2 := fun u u' => cell_off2 (v := u) (v' := u') (i := 0) (i' := 1) (hcell hk12 2) (by decide) (by decide)
          have z0 := hfroz hk12 0
          have z1 := hfroz hk12 1
          have z2 := hfroz hk12 2
          have HK12 := hide hk12
          clear hk02 hk12
          go_wp2_with fail
          have hk3 := set3 (unhide HK12) (.int .i64 4) (.int .i64 g0) (.string s)
          have f0 := hcell hk3 0
          have f1 := hcell hk3 1
          have f2 := hcell hk3 2
          refine bodyPost_ret (v := .agg #[.int .i64 4, .int .i64 g0, .string s]) (by simp [results, Try.results37, f0, f1, f2, go_sem]) rfl ?_
          refine moved_stay (u := ⟨4, g0, s⟩) (unhide H) ?_ ?_
          · unfold moveV
            rw [if_neg (by simp)]
            simp only [unhide HQ, unhide HG]
            rw [if_pos (unhide HG0)]
          · rw [← hw2]
            exact (((((unhide HB1).setCell (Nat.le_refl _) _).setCell (by simp) _).setCell (by simp) _).setCell (by simp) _)
  · have hb0 : (kd != 4) = true := by rw [bne_iff_ne]; exact hk
    have HK := hide hk
    have r0 := hcell (unhide HK1) 0
    have r1 := fun u => cell_off (v := u) (i := 0) (hcell (unhide HK1) 1) (by decide)
    have r2 := fun u u' => cell_off2 (v := u) (v' := u') (i := 0) (i' := 1) (hcell (unhide HK1) 2) (by decide) (by decide)
    have z0 := hfroz (unhide HK1) 0
    have z1 := hfroz (unhide HK1) 1
    have z2 := hfroz (unhide HK1) 2
    clear hk
    go_enter Try.func37, Try.ntmps37
    go_wp2_with fail
    have hk3 := set3 (unhide HK1) (.int .i64 kd) (.int .i64 n) (.string s)
    have f0 := hcell hk3 0
    have f1 := hcell hk3 1
    have f2 := hcell hk3 2
    refine bodyPost_ret (v := .agg #[.int .i64 kd, .int .i64 n, .string s]) (by simp [results, Try.results37, f0, f1, f2, go_sem]) rfl ?_
    exact moved_stay (u := ⟨kd, n, s⟩) (unhide H) (by unfold moveV; rw [if_pos (unhide HK)]) ((((unhide HB0).setCell (by simp) _).setCell (by simp) _).setCell (by simp) _)
end Go.Proofs.Ytddfdefgdlfpmaa

namespace Go.Proofs.Ytddfdefgdlfpmaa
open Go.RowKit

theorem take_set3 (cur : Array Value) (N k : Nat) (a b c : Value) (hk : k + 2 < N) (hN : N ≤ cur.size) :
    (((cur.setIfInBounds k a).setIfInBounds (k + 1) b).setIfInBounds (k + 2) c).toList.take N = (((cur.toList.take N).set k a).set (k + 1) b).set (k + 2) c := by
  apply List.ext_getElem?
  intro j
  by_cases hj : j < N
  · simp only [List.getElem?_take, if_pos hj, List.getElem?_set, Array.getElem?_toList, Array.getElem?_setIfInBounds, Array.size_setIfInBounds, List.length_set, List.length_take, Array.length_toList]
    split <;> split <;> (try split) <;> (try split) <;> first | rfl | omega | (simp; omega) | simp_all
  · rw [List.getElem?_eq_none (by simp; omega), List.getElem?_eq_none (by simp; omega)]
theorem owns_set3 {w : World} {B : Nat} {e : TypeId} {v : Value} {n : Nat} {xs : List Value} (h : w.ownsRow B e 3 v n xs) {g cap : Nat} (hv : v = .slice (some ⟨g, 0, none⟩) n cap) {i : Nat} (hi : i < n) (a b c : Value) :
    (((w.setCell ⟨g, i * 3, none⟩ a).setCell ⟨g, i * 3 + 1, none⟩ b).setCell ⟨g, i * 3 + 2, none⟩ c).ownsRow B e 3 v n (((xs.set (i * 3) a).set (i * 3 + 1) b).set (i * 3 + 2) c) := by
  refine ⟨by simpa using h.1, ?_⟩
  rcases h.2 with ⟨rfl, rfl⟩ | ⟨g', cap', cur, rfl, h2, h3, h4, h5, h6, h7⟩
  · cases hv
  · cases hv
    refine Or.inr ⟨g, cap, _, rfl, h2, hset (hset (hset h3 _ a) _ b) _ c, h4, h5, by simpa using h6, ?_⟩
    rw [take_set3 cur (n * 3) (i * 3) a b c (by omega) (by rw [h6]; exact Nat.mul_le_mul_right 3 h4), h7]
theorem vals_set : ∀ (l : List HV) (i : Nat) (v : HV), i < l.length → (l.set i v).flatMap vCells = (((l.flatMap vCells).set (i * 3) (.int .i64 v.kind)).set (i * 3 + 1) (.int .i64 v.n)).set (i * 3 + 2) (.string v.s)
  | x :: r, 0, v, _ => by simp [vCells]
  | x :: r, i + 1, v, h => by
    have := vals_set r i v (by simpa using h)
    rw [List.set_cons_succ, List.flatMap_cons, this, List.flatMap_cons]
    have hl : (vCells x).length = 3 := rfl
    rw [List.set_append_right _ _ (by omega), List.set_append_right _ _ (by omega), List.set_append_right _ _ (by omega), hl]
    congr 1
    congr 1
    · congr 1
      · congr 1
        omega
      · omega
    · omega
theorem rowF_set (l : List HO) {i : Nat} (v : HV) (hi : i < (allF l).length) : rowF (setF l i v) = (((rowF l).set (i * 3) (.int .i64 v.kind)).set (i * 3 + 1) (.int .i64 v.n)).set (i * 3 + 2) (.string v.s) := by
  unfold rowF
  rw [setF_allF, vals_set _ _ _ hi]
/-- A field of the part is set. -/
theorem MvAt.fieldSet {B : Nat} {w : World} {m : Mb} {M : MS} {cs : Array Value} {T : TypeId} {vto vtf : Value} (h : MvAt B w m M cs T vto vtf) {g cap : Nat} (hv : vtf = .slice (some ⟨g, 0, none⟩) (allF M.T).length cap) {i : Nat} (hi : i < (allF M.T).length) (v : HV) :
    MvAt B (((w.setCell ⟨g, i * 3, none⟩ (.int .i64 v.kind)).setCell ⟨g, i * 3 + 1, none⟩ (.int .i64 v.n)).setCell ⟨g, i * 3 + 2, none⟩ (.string v.s)) m { M with T := setF M.T i v } cs T vto vtf := by
  have hty : Typ w g 34 := owns_ty h.tpart.flds (by rw [hv]; rfl)
  have hT := partT_ne h.tT
  have oth : ∀ k, k ≠ g → (((w.setCell ⟨g, i * 3, none⟩ (.int .i64 v.kind)).setCell ⟨g, i * 3 + 1, none⟩ (.int .i64 v.n)).setCell ⟨g, i * 3 + 2, none⟩ (.string v.s)).heap[k]? = w.heap[k]? := fun k hk => by
    rw [hother _ hk, hother _ hk, hother _ hk]
  have kt : ∀ {k t}, Typ w k t → t ≠ 34 → (((w.setCell ⟨g, i * 3, none⟩ (.int .i64 v.kind)).setCell ⟨g, i * 3 + 1, none⟩ (.int .i64 v.n)).setCell ⟨g, i * 3 + 2, none⟩ (.string v.s)).heap[k]? = w.heap[k]? := fun hk hne => oth _ (hk.ne hty hne)
  have ymv := kt h.ymv (by decide)
  have yfb := kt h.yfb (by decide)
  have ylb := kt h.ylb (by decide)
  have yl : ∀ b ∈ m.ls, _ := fun b (q : b ∈ m.ls) => kt (h.yl b q) (by decide)
  have yp : ∀ b ∈ m.ls, (((w.setCell ⟨g, i * 3, none⟩ (.int .i64 v.kind)).setCell ⟨g, i * 3 + 1, none⟩ (.int .i64 v.n)).setCell ⟨g, i * 3 + 2, none⟩ (.string v.s)).heap[b.pb]? = w.heap[b.pb]? := fun b q => by
    obtain ⟨t, t1, t2⟩ := h.yp b q
    exact kt t2 (partT_ne t1).2.1
  have hl3 : (setF M.T i v).length = M.T.length := setF_len _ _ _
  have hl4 : (allF (setF M.T i v)).length = (allF M.T).length := by rw [setF_allF, List.length_set]
  refine ⟨(World.cell?_of_block ymv).trans h.m0, (World.cell?_of_block ymv).trans h.m1, ⟨(World.cell?_of_block yfb).trans h.fr.c, fun j b hj => (World.cell?_of_block ylb).trans (h.fr.at' j b hj), h.fr.len, h.fr.few, fun j b p hj hp => ?_⟩, ?_, h.sz, by simpa [World.setCell] using h.hB, h.tT, h.ymv.move ymv, h.yfb.move yfb, h.ylb.move ylb, fun b q => (h.yl b q).move (yl b q), fun b q => ?_, h.hd, h.no, h.nf, h.nw, h.szn⟩
  · have hbm := List.mem_of_getElem? hj
    have hl := h.fr.lvs j b p hj hp
    exact hl.other (yl b hbm) (kt (h.wb_ty hbm) (by decide)) (fun c _ => World.cell?_of_block (yp b hbm)) (fun k hk => kt (owns_ty hl.pt.objs hk) (by decide)) (fun k hk => oth k (fun e => h.nf b hbm k (by rw [hv, e]; rfl) hk))
  · refine ⟨(kt h.tb_ty hT.2.1).trans h.tpart.blk, h.tpart.e0, h.tpart.e1, h.tpart.e2, ?_, ?_, ?_, ?_, h.tpart.tO, h.tpart.tV⟩
    · have := owns_move h.tpart.objs (fun k hk => kt (owns_ty h.tpart.objs hk) (by decide))
      show World.ownsRow _ B _ 6 vto (setF M.T i v).length (rowO 0 (setF M.T i v))
      rw [hl3, setF_rowO]
      exact this
    · show World.ownsRow _ B _ 3 vtf (allF (setF M.T i v)).length (rowF (setF M.T i v))
      rw [hl4, rowF_set _ _ hi]
      exact owns_set3 h.tpart.flds hv hi _ _ _
    · show (allF (setF M.T i v)).length ≤ _
      rw [hl4]
      exact h.tpart.few
    · show (setF M.T i v).length ≤ _
      rw [hl3]
      exact h.tpart.fewo
  · obtain ⟨t, t1, t2⟩ := h.yp b q
    exact ⟨t, t1, t2.move (yp b q)⟩
end Go.Proofs.Ytddfdefgdlfpmaa

namespace Go.Proofs.Ytddfdefgdlfpmaa
open Go.RowKit

/-- What comes of moves. -/
def MvPost (B : Nat) (m : Mb) (M' : MS) (T : TypeId) (vto vtf : Value) (w w' : World) : Prop :=
  FrM m vto vtf w w' ∧ ∃ cs' vto' vtf', MvAt B w' m M' cs' T vto' vtf' ∧ (vto'.ownBlock = vto.ownBlock ∨ ∀ j, vto'.ownBlock = some j → w.heap.size ≤ j) ∧ (vtf'.ownBlock = vtf.ownBlock ∨ ∀ j, vtf'.ownBlock = some j → w.heap.size ≤ j)
theorem own_trans {a b c : Option Nat} {n n' : Nat} (h : b = a ∨ ∀ j, b = some j → n ≤ j) (k : c = b ∨ ∀ j, c = some j → n' ≤ j) (hn : n ≤ n') : c = a ∨ ∀ j, c = some j → n ≤ j := by
  rcases k with rfl | k
  · exact h
  · exact Or.inr fun j hj => Nat.le_trans hn (k j hj)
theorem MvPost.trans {B : Nat} {m : Mb} {M'' : MS} {T : TypeId} {vto vtf vto' vtf' : Value} {w w' w'' : World} (h : FrM m vto vtf w w') (h1 : vto'.ownBlock = vto.ownBlock ∨ ∀ j, vto'.ownBlock = some j → w.heap.size ≤ j) (h2 : vtf'.ownBlock = vtf.ownBlock ∨ ∀ j, vtf'.ownBlock = some j → w.heap.size ≤ j) (k : MvPost B m M'' T vto' vtf' w' w'') : MvPost B m M'' T vto vtf w w'' := by
  obtain ⟨k1, cs, a, b, k2, k3, k4⟩ := k
  exact ⟨h.trans k1 h1 h2, cs, a, b, k2, own_trans h1 k3 h.size, own_trans h2 k4 h.size⟩
theorem moved_cap {B : Nat} {w : World} {m : Mb} {M : MS} {cs : Array Value} {T : TypeId} {vto vtf : Value} (h : MvAt B w m M cs T vto vtf) (hc : Cap M) (v : HV) (hv : I64 v.n) :
    Calls Try.prog 37 #[.pointer (some ⟨m.mv, 0, none⟩), .agg #[.int .i64 v.kind, .int .i64 v.n, .string v.s]] w fun e w' => e = .returned (.agg #[.int .i64 (moveV M v).2.kind, .int .i64 (moveV M v).2.n, .string (moveV M v).2.s]) ∧ MvPost B m (moveV M v).1 T vto vtf w w' := by
  have hcr := cnt_room M
  have h1 := hc.cn
  have h2 := hc.top
  have h3 := hc.ft
  have h4 := hc.po
  exact (moved_any h v hv (by omega) (by omega) (by omega) (fun q x hx hg => Nat.le_trans (pot_room hc.full hx hg) h4)).mono fun e w' ⟨a, b, c⟩ => ⟨a, b, c⟩

theorem moveV_len (M : MS) (v : HV) : (allF M.T).length ≤ (allF (moveV M v).1.T).length := by
  unfold moveV
  split
  · exact Nat.le_refl _
  · split
    · exact Nat.le_refl _
    · split
      · exact Nat.le_refl _
      · split
        · exact Nat.le_refl _
        · simp [allF]
theorem FrM.cells {m : Mb} {vto vtf : Value} {w : World} {g a b c : Nat} (hv : vtf.ownBlock = some g) (ht : m.tb ≠ g) (x y z : Value) : FrM m vto vtf w (((w.setCell ⟨g, a, none⟩ x).setCell ⟨g, b, none⟩ y).setCell ⟨g, c, none⟩ z) := by
  have oth : ∀ k, k ≠ g → (((w.setCell ⟨g, a, none⟩ x).setCell ⟨g, b, none⟩ y).setCell ⟨g, c, none⟩ z).heap[k]? = w.heap[k]? := fun k hk => by rw [hother _ hk, hother _ hk, hother _ hk]
  exact ⟨rfl, rfl, rfl, by simp [World.setCell], fun k _ _ _ _ h4 => oth k (fun e => h4 (by rw [hv, e])), fun k _ => World.cell?_of_block (oth _ ht)⟩

set_option maxRecDepth 100000 in
set_option maxHeartbeats 8000000 in
theorem field_any {B : Nat} {w : World} {m : Mb} {M : MS} {cs : Array Value} {T : TypeId} {vto vtf : Value} (h : MvAt B w m M cs T vto vtf) (hc : Cap M) {i : Nat} (hi : i < (allF M.T).length) :
    Calls Try.prog 27 #[.pointer (some ⟨m.mv, 0, none⟩), .int .i64 i] w fun e w' => e = .returned (.tuple #[]) ∧ MvPost B m (fieldM M i) T vto vtf w w' := by
  obtain ⟨v, hv⟩ : ∃ v, (allF M.T)[i]? = some v := ⟨_, List.getElem?_eq_getElem hi⟩
  have hn := hc.nT v (List.mem_of_getElem? hv)
  have H := hide h
  have HC := hide hc
  have HFM := hide (fieldM_some hv)
  have m0 := h.m0
  obtain ⟨gf, capf, hvf⟩ : ∃ gf capf, vtf = .slice (some ⟨gf, 0, none⟩) (allF M.T).length capf := by
    obtain ⟨g, cap, e, _⟩ := owns_get h.tpart.flds (j := 0) (by omega)
    exact ⟨g, cap, e⟩
  have c2 : w.cell? ⟨m.tb, m.tp + 2, none⟩ = some (.slice (some ⟨gf, 0, none⟩) (allF M.T).length capf) := by rw [← hvf]; exact (hcell h.tpart.blk _).trans h.tpart.e2
  have key : ∀ r, r < 3 → w.cell? ⟨gf, i * 3 + r, none⟩ = (vCells v)[r]? := fun r hr => by
    obtain ⟨g, cap, e, _, q, _⟩ := owns_get h.tpart.flds (j := i * 3 + r) (by omega)
    rw [hvf] at e
    cases e
    rw [q]
    exact vals_get hv hr
  have d0 : w.cell? ⟨gf, i * 3, none⟩ = some (.int .i64 v.kind) := key 0 (by omega)
  have d1 : w.cell? ⟨gf, i * 3 + 1, none⟩ = some (.int .i64 v.n) := key 1 (by omega)
  have d2 : w.cell? ⟨gf, i * 3 + 2, none⟩ = some (.string v.s) := key 2 (by omega)
  have hi2 : (i : Int) < ((allF M.T).length : Int) := by omega
  have HN := hide hn
  have HI := hide hi
  clear h hc hv hn hi hvf key
  go_enter Try.func27, Try.ntmps27
  go_wp2_with fail
  refine (moved_cap (unhide H) (unhide HC) v (unhide HN)).mono ?_
  rintro e w1 ⟨rfl, hp⟩
  clear m0 c2 d0 d1 d2
  obtain ⟨hF, cs', vto', vtf', hM, e1, e2⟩ := hp
  have hlen := moveV_len M v
  generalize (moveV M v).1 = M1 at *
  generalize (moveV M v).2 = u at *
  have hi1 : i < (allF M1.T).length := Nat.lt_of_lt_of_le (unhide HI) hlen
  obtain ⟨w2, hw2⟩ : ∃ w2, w1.alloc (.cells #[.int .i64 u.kind, .int .i64 u.n, .string u.s] 34) = w2 := ⟨_, rfl⟩
  have hb2 : Below w1.heap.size w1 w2 := by rw [← hw2]; exact (Below.refl _ _).alloc (Nat.le_refl _) _
  have hk2 : w2.heap[w1.heap.size]? = some (.cells #[.int .i64 u.kind, .int .i64 u.n, .string u.s] 34 (0, 0)) := by rw [← hw2]; exact hnew _ _
  have hM2 := hM.keep hb2
  obtain ⟨gg, capg, hvg⟩ : ∃ gg capg, vtf' = .slice (some ⟨gg, 0, none⟩) (allF M1.T).length capg := by
    obtain ⟨g, cap, e, _⟩ := owns_get hM.tpart.flds (j := 0) (by omega)
    exact ⟨g, cap, e⟩
  have p0 := hM2.m0
  have p2 : w2.cell? ⟨m.tb, m.tp + 2, none⟩ = some (.slice (some ⟨gg, 0, none⟩) (allF M1.T).length capg) := by rw [← hvg]; exact (hcell hM2.tpart.blk _).trans hM2.tpart.e2
  have x0 := hcell hk2 0
  have x1 := hcell hk2 1
  have x2 := hcell hk2 2
  have gT : Typ w1 gg 34 := owns_ty hM.tpart.flds (by rw [hvg]; rfl)
  have n1 : gg ≠ m.mv := gT.ne hM.ymv (by decide)
  have n2 : gg ≠ m.tb := gT.ne hM.tb_ty (partT_ne hM.tT).2.1.symm
  have n3 : gg ≠ w1.heap.size := Nat.ne_of_lt gT.lt
  have tgt : ∀ r, r < 3 → (∃ u', w2.cell? ⟨gg, i * 3 + r, none⟩ = some u') ∧ w2.frozen? ⟨gg, i * 3 + r, none⟩ = false := fun r hr => by
    obtain ⟨g, cap, e, _, q, z⟩ := owns_get hM2.tpart.flds (j := i * 3 + r) (by omega)
    rw [hvg] at e
    cases e
    refine ⟨?_, z⟩
    rw [q]
    have hl : i * 3 + r < (rowF M1.T).length := by unfold rowF; rw [vals_length]; omega
    exact ⟨_, List.getElem?_eq_getElem hl⟩
  obtain ⟨⟨t0, y0⟩, z0⟩ := tgt 0 (by omega)
  obtain ⟨⟨t1, y1⟩, z1⟩ := tgt 1 (by omega)
  obtain ⟨⟨t2, y2⟩, z2⟩ := tgt 2 (by omega)
  have y0 : w2.cell? ⟨gg, i * 3, none⟩ = some t0 := y0
  have z0 : w2.frozen? ⟨gg, i * 3, none⟩ = false := z0
  have y1' := fun q => cell_off (v := q) (i := i * 3) y1 (by omega)
  have y2' := fun q q' => cell_off2 (v := q) (v' := q') (i := i * 3) (i' := i * 3 + 1) y2 (by omega) (by omega)
  have hi3 : (i : Int) < ((allF M1.T).length : Int) := by omega
  have HM2 := hide hM2
  have HVG := hide hvg
  have HI1 := hide hi1
  have HB2 := hide hb2
  have HTB := hide (hlt hM.tpart.blk)
  have HF := hide hF
  have HE1 := hide e1
  have HE2 := hide e2
  clear hM2 hvg hi1 hb2 hF e1 e2 hM tgt hk2 gT y1 y2 hlen hi2
  go_wp2_with fail
  go_region_held3 (fun w' => w'.cell? ⟨m.mv, 0, none⟩ = some (.pointer (some ⟨m.tb, m.tp, none⟩)) ∧ w'.cell? ⟨m.tb, m.tp + 2, none⟩ = some (.slice (some ⟨gg, 0, none⟩) (allF M1.T).length capg) ∧ w'.cell? ⟨w1.heap.size, 0, none⟩ = some (.int .i64 u.kind) ∧ w'.cell? ⟨w1.heap.size, 1, none⟩ = some (.int .i64 u.n) ∧ w'.cell? ⟨w1.heap.size, 2, none⟩ = some (.string u.s)) (go_keep) (fail)
  all_goals
    go_end0
    refine ⟨rfl, ?_⟩
    rw [unhide HFM]
    have hs := ((unhide HM2).fieldSet (unhide HVG) (unhide HI1) u).keep (Below.drew (Below.refl _ _))
    have f1 : FrM m vto' vtf' w1 w2 := FrM.of_below (unhide HB2) (unhide HTB)
    have f2 : FrM m vto' vtf' w2 (((w2.setCell ⟨gg, i * 3, none⟩ (.int .i64 u.kind)).setCell ⟨gg, i * 3 + 1, none⟩ (.int .i64 u.n)).setCell ⟨gg, i * 3 + 2, none⟩ (.string u.s)) := FrM.cells (by rw [unhide HVG]; rfl) (Ne.symm n2) _ _ _
    have f3 := ((f1.trans f2 (Or.inl rfl) (Or.inl rfl)).later (w'' := (((w2.setCell ⟨gg, i * 3, none⟩ (.int .i64 u.kind)).setCell ⟨gg, i * 3 + 1, none⟩ (.int .i64 u.n)).setCell ⟨gg, i * 3 + 2, none⟩ (.string u.s)).drew) (Nat.le_refl _) rfl rfl rfl (unhide HTB) (fun _ _ => rfl))
    exact MvPost.trans (unhide HF) (unhide HE1) (unhide HE2) ⟨f3, _, vto', vtf', hs, Or.inl rfl, Or.inl rfl⟩
end Go.Proofs.Ytddfdefgdlfpmaa
