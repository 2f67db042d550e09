/-
  Heap.settle, whole.
  What takes objects, at its beginning.
  Heap.Major.
  Heap.Minor, where no old object is noted.
-/
import Derived.Test.YtddfdefgdlfpmaaM11
namespace Go.Proofs.Ytddfdefgdlfpmaa
open Go.RowKit Go.Maps

theorem keyIntS : Keyed Try.prog 3 := int_keyed Try.underlying3
theorem cell_ne {w : World} {k c mb : Nat} {v : Value} {es : Array MapEntry} {cl : Nat} (h : w.cell? ⟨k, c, none⟩ = some v) (hm : w.heap[mb]? = some (.map es cl)) : k ≠ mb := by
  rintro rfl
  simp [World.cell?, hm] at h
theorem owns_ne {w : World} {B : Nat} {e : TypeId} {k : Nat} {v : Value} {n : Nat} {xs : List Value} (h : w.ownsRow B e k v n xs) {j mb : Nat} (hj : v.ownBlock = some j) {es : Array MapEntry} {cl : Nat} (hm : w.heap[mb]? = some (.map es cl)) : j ≠ mb := by
  rintro rfl
  obtain ⟨cs, fr, hc⟩ := owns_ty h hj
  rw [hc] at hm
  cases hm
/-- The map's block alone was turned. -/
theorem LvAt.grown {B : Nat} {w w' : World} {b : Lv} {p : PL} (h : LvAt B w b p) {mb : Nat} (hg : w.grownBy w' (some mb)) {es : Array MapEntry} {cl : Nat} (hm : w.heap[mb]? = some (.map es cl)) : LvAt B w' b p := by
  have keep : ∀ k, k < w.heap.size → k ≠ mb → w'.heap[k]? = w.heap[k]? := fun k hk hne => hg.block k hk (fun e => hne (Option.some.inj e))
  have wn : b.wb ≠ mb := by
    rintro e
    have := h.wn
    rw [e, hm] at this
    cases this
  exact h.other (keep _ (cell_lt h.c0) (cell_ne h.c0 hm)) (keep _ (hlt h.wn) wn) (fun c _ => World.cell?_of_block (keep b.pb (cell_lt (a := ⟨b.pb, b.po, none⟩) h.f0) (cell_ne h.f0 hm))) (fun j hj => keep j (owns_ty h.pt.objs hj).lt (owns_ne h.pt.objs hj hm)) (fun j hj => keep j (owns_ty h.pt.flds hj).lt (owns_ne h.pt.flds hj hm))
/-- What the heap itself has to do with it. -/
structure StAt (w : World) (m : Mb) (M : MS) (vto vtf : Value) (hp mb lb2 : Nat) (b0 : Lv) (p0 : PL) (l : List (Option (Nat × Nat × HV))) (n : Nat) (D : DataW Unit) : Prop where
  h9 : w.cell? ⟨hp, 9, none⟩ = some (.map (some mb))
  own : w.ownsMap Try.prog 3 (plainElem Try.prog 3) mb n D
  mo : Out m vto vtf w mb
  mr : ¬ rootB l mb
  lo : Out m vto vtf w lb2
  lr : ¬ rootB l lb2
  ll : ∀ (j : Nat) (b : Lv), m.ls[j]? = some b → w.cell? ⟨lb2, j, none⟩ = some (.pointer (some ⟨b.l, 0, none⟩))
  hd : (hp = m.tb ∧ m.tp = 3) ∨ Out m vto vtf w hp
  hr : ¬ rootB l hp
  hz : ∃ cs T', w.heap[hp]? = some (.cells cs T' (0, 0)) ∧ 12 < cs.size
  hn : hp = m.tb → 12 < m.n
  yb : m.ls[0]? = some b0
  yl : M.L[0]? = some p0
  yp : b0.pb = hp ∧ b0.po = 0

/-- What comes of settle. -/
def SettlePost (B : Nat) (m : Mb) (M : MS) (T : TypeId) (vto vtf : Value) (g : Option Addr) (l : List (Option (Nat × Nat × HV))) (hp mb n : Nat) (p0 : PL) (D : DataW Unit) (w w' : World) : Prop :=
  ∃ (wl : World) (cs' : Array Value) (vto' vtf' : Value) (hcs : Array Value) (T' : TypeId) (n' : Nat), RtNow M wl g l l.length ∧ FrS (rootB l) m vto vtf w wl ∧ MvAt B wl m M cs' T vto' vtf' ∧ (vto'.ownBlock = vto.ownBlock ∨ ∀ j, vto'.ownBlock = some j → w.heap.size ≤ j) ∧ (vtf'.ownBlock = vtf.ownBlock ∨ ∀ j, vtf'.ownBlock = some j → w.heap.size ≤ j) ∧
    wl.heap[hp]? = some (.cells hcs T' (0, 0)) ∧ 12 < hcs.size ∧ w'.ownsMap Try.prog 3 (plainElem Try.prog 3) mb n' (idsAll D M.L) ∧ n' ≤ n + (M.L.map fun p => p.objs.length).sum ∧
    w'.heap[hp]? = some (.cells ((((hcs.setIfInBounds 0 (.int .i64 (p0.first + 2 * p0.objs.length))).setIfInBounds 1 (.slice none 0 0)).setIfInBounds 2 (.slice none 0 0)).setIfInBounds 8 (.slice none 0 0)) T' (0, 0)) ∧
    (∀ k, k < wl.heap.size → k ≠ mb → k ≠ hp → w'.heap[k]? = wl.heap[k]?) ∧ wl.heap.size ≤ w'.heap.size ∧ w'.os = wl.os ∧ w'.tape = wl.tape ∧ w'.output = wl.output
def cntObjs (L : List PL) : Nat := (L.map fun p => p.objs.length).sum
theorem cntObjs_le {L : List PL} {j : Nat} {p : PL} (h : L[j]? = some p) : cntObjs (L.take j) + p.objs.length = cntObjs (L.take (j + 1)) := by
  unfold cntObjs
  rw [List.take_add_one, h]
  simp
theorem cntObjs_take (L : List PL) (j : Nat) : cntObjs (L.take j) ≤ cntObjs L := by
  have h : cntObjs L = cntObjs (L.take j) + cntObjs (L.drop j) := by
    unfold cntObjs
    rw [← List.sum_append, ← List.map_append, List.take_append_drop]
  omega
theorem idsAll_step {D : DataW Unit} {L : List PL} {j : Nat} {p : PL} (h : L[j]? = some p) : idsAll D (L.take (j + 1)) = idsPart (idsAll D (L.take j)) p := by
  unfold idsAll
  rw [List.take_add_one, h]
  simp
/-- The first i of a part. -/
def idsTo (D : DataW Unit) (p : PL) (i : Nat) : DataW Unit := ((p.objs.zip p.went).take i).foldl (fun D z => idStep D z.1 z.2) D
theorem idsTo_step {D : DataW Unit} {p : PL} {i : Nat} {x : HO} {a : Int} (hx : p.objs[i]? = some x) (ha : p.went[i]? = some a) : idsTo D p (i + 1) = idStep (idsTo D p i) x a := by
  have hz : (p.objs.zip p.went)[i]? = some (x, a) := by rw [List.getElem?_zip_eq_some]; exact ⟨hx, ha⟩
  unfold idsTo
  rw [List.take_add_one, hz]
  simp
theorem idsTo_all {D : DataW Unit} {p : PL} (h : p.went.length = p.objs.length) : idsTo D p p.objs.length = idsPart D p := by
  unfold idsTo idsPart
  rw [List.take_of_length_le (by simp [h])]
theorem wf_of {n : Int} (h : I64 n) : (Lit.int .i64 n).wf = true := by
  obtain ⟨h1, h2⟩ := h
  simp only [Lit.wf, IntKind.min, IntKind.max, IntKind.signed, IntKind.bits, Bool.and_eq_true, decide_eq_true_eq, if_true]
  constructor <;> omega

set_option maxRecDepth 100000 in
set_option maxHeartbeats 16000000 in
theorem settle_any {B : Nat} {w : World} {m : Mb} {M : MS} {cs : Array Value} {T : TypeId} {vto vtf : Value} (h : MvAt B w m M cs T vto vtf) (hc : Cap M) {k0 s : Nat} (hi : MInv k0 s M) (hto : ToOut M) {g : Option Addr} {l : List (Option (Nat × Nat × HV))} (hr : RtAt w g l) (hf : RtFit m vto vtf w g l) (hn : ∀ rb ro v, some (rb, ro, v) ∈ l → I64 v.n) (hwn : ∀ rb ro v, some (rb, ro, v) ∈ l → Went M.L v) (hl : l.length ≤ 1000000000) (cap : Nat)
    {hp mb lb2 c2 n : Nat} {b0 : Lv} {p0 : PL} {D : DataW Unit} (st : StAt w m M vto vtf hp mb lb2 b0 p0 l n D) (hids : ∀ q x, objAt M.L q = some x → I64 x.id) (hcnt : n + cntObjs M.L ≤ 1000000000) :
    Calls Try.prog 30 #[.pointer (some ⟨hp, 0, none⟩), .pointer (some ⟨m.mv, 0, none⟩), .slice g l.length cap, .slice (some ⟨lb2, 0, none⟩) m.ls.length c2] w fun e w' => e = .returned (.tuple #[]) ∧ SettlePost B m M T vto vtf g l hp mb n p0 D w w' := by
  have H := hide h
  have HC := hide hc
  have HI := hide hi
  have HTO := hide hto
  have HF := hide hf
  have HN := hide hn
  have HWN := hide hwn
  have HST := hide st
  have HR0 : Hid (RtNow M w g l 0) := ⟨hr.at', fun rb ro v hv => by rw [now_zero]; exact hr.val rb ro v hv, hf.fz⟩
  have HR00 := hide hr.val
  have HIDS := hide hids
  have HCNT := hide hcnt
  clear h hc hi hto hr hf hn hwn st hids hcnt
  go_enter Try.func30, Try.ntmps30
  go_wp2_with fail
  go_loopg [16] l.length (fun gg iv wr => ∃ (k : Nat), k ≤ l.length ∧ gg = l.length - k ∧ iv = .int .i64 k ∧ Hid (RtNow M wr g l k ∧ FrS (rootB l) m vto vtf w wr ∧ ∃ cs' vto' vtf', MvAt B wr m M cs' T vto' vtf' ∧ (vto'.ownBlock = vto.ownBlock ∨ ∀ j, vto'.ownBlock = some j → w.heap.size ≤ j) ∧ (vtf'.ownBlock = vtf.ownBlock ∨ ∀ j, vtf'.ownBlock = some j → w.heap.size ≤ j)))
  case atStart => exact ⟨0, Nat.zero_le _, rfl, rfl, unhide HR0, FrS.refl _ _ _ _ _, cs, vto, vtf, unhide H, Or.inl rfl, Or.inl rfl⟩
  case round =>
    obtain ⟨k, hk, rfl, rfl, HY⟩ := hrel
    obtain ⟨hR, hF, cs', vto', vtf', hM, e1, e2⟩ := unhide HY
    have HRk := hide hR
    have HFk := hide hF
    have HMk := hide hM
    have HE1 := hide e1
    have HE2 := hide e2
    by_cases hlt : k < l.length
    · have hx : l[k]? = some (l[k]'hlt) := List.getElem?_eq_getElem _
      generalize (l[k]'hlt) = r at *
      obtain ⟨gb, go, hgg, c0⟩ := hR.at' k r hx
      subst hgg
      have hk2 : (k : Int) < (l.length : Int) := by omega
      have HX := hide hx
      cases r with
      | none =>
        clear hR hF hM e1 e2 hx
        go_wp2_with fail
        go_roundg (l.length - (k + 1))
        case measure => omega
        case rel => exact ⟨k + 1, by omega, rfl, by go_num, ⟨(unhide HRk).at', fun rb ro v hv => by rw [now_none M (unhide HX)]; exact (unhide HRk).val rb ro v hv, (unhide HRk).fz⟩, unhide HFk, cs', vto', vtf', unhide HMk, unhide HE1, unhide HE2⟩
      | some z =>
        obtain ⟨rb, ro, v⟩ := z
        have hmem : some (rb, ro, v) ∈ l := List.mem_of_getElem? hx
        obtain ⟨v0, v1, v2⟩ := hR.val rb ro v hmem
        have c0' : wr.cell? ⟨gb, go + k, none⟩ = some (.pointer (some ⟨rb, ro, none⟩)) := c0
        have hu := now_or M l k rb ro v
        have hpp := phi_phi (unhide HI) (unhide HTO) v
        have hw0 := unhide HWN rb ro v hmem
        have hwu : Went M.L (rootNow M l k rb ro v) := by
          rcases hu with e | e
          · rw [e]; exact hw0
          · rw [e]; exact hpp.2 hw0
        have hpu : phi M.L (rootNow M l k rb ro v) = phi M.L v := by
          rcases hu with e | e
          · rw [e]
          · rw [e]; exact hpp.1
        have hnu : I64 (rootNow M l k rb ro v).n := by
          rcases hu with e | e
          · rw [e]; exact unhide HN rb ro v hmem
          · rw [e]
            have := ((unhide HC).move (unhide HI) (unhide HN rb ro v hmem)).2
            rw [went_move hw0] at this
            exact this
        have hmv : moveV M (rootNow M l k rb ro v) = (M, phi M.L v) := by rw [went_move hwu, hpu]
        generalize rootNow M l k rb ro v = u at *
        have HNU := hide hnu
        have HMV := hide hmv
        have HMEM := hide hmem
        have HSAME : Hid (∀ v', some (rb, ro, v') ∈ l → v' = v) := fun v' hv' => by
          have q1 := unhide HR00 rb ro v hmem
          have q2 := unhide HR00 rb ro v' hv'
          obtain ⟨p0, p1, p2⟩ := q1
          obtain ⟨r0, r1, r2⟩ := q2
          rw [p0] at r0
          rw [p1] at r1
          rw [p2] at r2
          cases v; cases v'
          simp only [Option.some.injEq, Value.int.injEq, Value.string.injEq, true_and] at r0 r1 r2
          simp [r0, r1, r2]
        clear hR hF hM e1 e2 hx c0 hu hpp hw0 hwu hpu hnu hmv hmem
        go_wp2_with fail
        refine (moved_cap (unhide HMk) (unhide HC) u (unhide HNU)).mono ?_
        rw [unhide HMV]
        rintro e w1 ⟨rfl, hF1, cs1, vto1, vtf1, hM1, a1, a2⟩
        have hout := ((unhide HF).out.v' rb ro v (unhide HMEM)).later (unhide HFk).size (unhide HE1) (unhide HE2)
        have hsb := hout.same hF1
        obtain ⟨rc, hrc⟩ := (unhide HRk).fz rb ro v (unhide HMEM)
        have hrc1 := hsb.trans hrc
        have b0 := (World.cell?_of_block (a := ⟨rb, ro, none⟩) hsb).trans v0
        have b1 := fun q => cell_off (v := q) (i := ro) ((World.cell?_of_block (a := ⟨rb, ro + 1, none⟩) hsb).trans v1) (by omega)
        have b2 := fun q q' => cell_off2 (v := q) (v' := q') (i := ro) (i' := ro + 1) ((World.cell?_of_block (a := ⟨rb, ro + 2, none⟩) hsb).trans v2) (by omega) (by omega)
        have z0 := hfroz hrc1 ro
        have z1 := hfroz hrc1 (ro + 1)
        have z2 := hfroz hrc1 (ro + 2)
        have HF1 := hide hF1
        have HM1 := hide hM1
        have HA1 := hide a1
        have HA2 := hide a2
        have HO1 := hide hout
        have HRC1 := hide hrc1
        clear hF1 hM1 a1 a2 hout hsb hrc hrc1 v0 v1 v2 c0'
        go_wp2_with fail
        have o1 := own_trans (unhide HE1) (unhide HA1) (unhide HFk).size
        have o2 := own_trans (unhide HE2) (unhide HA2) (unhide HFk).size
        have hRk1 : RtNow M w1 (some ⟨gb, go, none⟩) l k := by
          refine ⟨fun j r hj => ?_, fun rb' ro' v' hv' => ?_, fun rb' ro' v' hv' => ?_⟩
          · obtain ⟨gb', go', e, hc'⟩ := (unhide HRk).at' j r hj
            have := ((unhide HF).out.g' gb' go' e (by have := (List.getElem?_eq_some_iff.1 hj).1; omega)).later (unhide HFk).size (unhide HE1) (unhide HE2)
            exact ⟨gb', go', e, (World.cell?_of_block (this.same (unhide HF1))).trans hc'⟩
          · have := (((unhide HF).out.v' rb' ro' v' hv').later (unhide HFk).size (unhide HE1) (unhide HE2)).same (unhide HF1)
            obtain ⟨q0, q1, q2⟩ := (unhide HRk).val rb' ro' v' hv'
            exact ⟨(World.cell?_of_block this).trans q0, (World.cell?_of_block this).trans q1, (World.cell?_of_block this).trans q2⟩
          · have := (((unhide HF).out.v' rb' ro' v' hv').later (unhide HFk).size (unhide HE1) (unhide HE2)).same (unhide HF1)
            obtain ⟨q, hq⟩ := (unhide HRk).fz rb' ro' v' hv'
            exact ⟨q, this.trans hq⟩
        have hgt : ∀ gb' go', (some (⟨gb, go, none⟩ : Addr)) = some ⟨gb', go', none⟩ → gb' ≠ rb := fun gb' go' e => ((unhide HF).gt gb' go' e (by omega)).ne ((unhide HF).ty rb ro v (unhide HMEM)) (by decide)
        have HNX := hide (hRk1.step (unhide HX) (unhide HF).ap hgt (fun v' hv' => by rw [unhide HSAME v' hv']))
        have HMX := hide ((unhide HM1).except (fun q => q = rb) (w' := (((w1.setCell ⟨rb, ro, none⟩ (.int .i64 (phi M.L v).kind)).setCell ⟨rb, ro + 1, none⟩ (.int .i64 (phi M.L v).n)).setCell ⟨rb, ro + 2, none⟩ (.string (phi M.L v).s))) (by simp [World.setCell]) (fun q _ hq => by rw [hother _ hq, hother _ hq, hother _ hq]) (fun q hq => by rw [hq]; exact ⟨_, _, unhide HRC1⟩)
          (fun j hj e => ((unhide HO1).later (unhide HF1).size (unhide HA1) (unhide HA2)).2.2.2.2 (e ▸ hj)) (fun b hb j hj e => (unhide HF).bf b hb rb ro v (unhide HMEM) (e ▸ hj)))
        have HFX := hide (((unhide HFk).move (unhide HF1) (unhide HE1) (unhide HE2)).set3 (r := rb) (a := ro) (b := ro + 1) (c := ro + 2) ⟨ro, v, unhide HMEM⟩ (.int .i64 (phi M.L v).kind) (.int .i64 (phi M.L v).n) (.string (phi M.L v).s))
        go_roundg (l.length - (k + 1))
        case measure => omega
        case rel => exact ⟨k + 1, by omega, rfl, by go_num, unhide HNX, unhide HFX, cs1, vto1, vtf1, unhide HMX, o1, o2⟩
    · obtain rfl : k = l.length := by omega
      have hff : decide ((l.length : Int) < (l.length : Int)) = false := by simp
      have HL1 := hide hF
      have own0 : wr.ownsMap Try.prog 3 (plainElem Try.prog 3) mb n D := by
        obtain ⟨es, cl, hb, rest⟩ := (unhide HST).own
        exact ⟨es, cl, (hF.block mb (unhide HST).mo (unhide HST).mr).trans hb, rest⟩
      have q9 : wr.cell? ⟨hp, 9, none⟩ = some (.map (some mb)) := by
        rcases (unhide HST).hd with ⟨e1, e2⟩ | e
        · have hh := hF.head (by rw [← e1]; exact (unhide HST).hr) 9 (by omega)
          rw [← e1] at hh
          exact hh.trans (unhide HST).h9
        · exact (World.cell?_of_block (hF.block hp e (unhide HST).hr)).trans (unhide HST).h9
      have qll : ∀ (j : Nat) (b : Lv), m.ls[j]? = some b → wr.cell? ⟨lb2, j, none⟩ = some (.pointer (some ⟨b.l, 0, none⟩)) := fun j b hj => (World.cell?_of_block (hF.block lb2 (unhide HST).lo (unhide HST).lr)).trans ((unhide HST).ll j b hj)
      have HOWN := hide own0
      have H9 := hide q9
      have HLL := hide qll
      have HLEN := hide hM.fr.len
      have HFEW := hide hM.fr.few
      clear hlt hk hR hF hM e1 e2 own0 q9 qll HY
      go_wp2_with fail
      rename World => wl
      go_loopg [32] m.ls.length (fun gg iv wx => ∃ (j : Nat), j ≤ m.ls.length ∧ gg = m.ls.length - j ∧ iv = .int .i64 j ∧ Hid (wl.grownBy wx (some mb) ∧ ∃ n', wx.ownsMap Try.prog 3 (plainElem Try.prog 3) mb n' (idsAll D (M.L.take j)) ∧ n' ≤ n + cntObjs (M.L.take j)))
      case atStart => exact ⟨0, Nat.zero_le _, rfl, rfl, ⟨rfl, rfl, rfl, Nat.le_refl _, fun _ _ _ => rfl⟩, n, unhide HOWN, by simp⟩
      case round =>
        obtain ⟨j, hj, rfl, rfl, HZ⟩ := hrel
        by_cases hlj : j < m.ls.length
        · have hbj : m.ls[j]? = some (m.ls[j]'hlj) := List.getElem?_eq_getElem _
          have hpj : M.L[j]? = some (M.L[j]'(by have := unhide HLEN; omega)) := List.getElem?_eq_getElem _
          generalize (m.ls[j]'hlj) = b at *
          generalize (M.L[j]'(by have := unhide HLEN; omega)) = p at *
          obtain ⟨es0, cl0, hmb0, _⟩ := unhide HOWN
          have lv0 := (unhide HMk).fr.lvs j b p hbj hpj
          have HLV0 := hide lv0
          have hg1 := (unhide HZ).1
          have lv1 := lv0.grown hg1 hmb0
          have d0 : wr.cell? ⟨lb2, j, none⟩ = some (.pointer (some ⟨b.l, 0, none⟩)) := by
            have q := unhide HLL j b hbj
            exact (World.cell?_of_block (hg1.block lb2 (cell_lt (a := ⟨lb2, j, none⟩) q) (fun e => cell_ne q hmb0 (Option.some.inj e)))).trans q
          have d1 := lv1.c0
          obtain ⟨gv, cv, hvo⟩ := owns_form lv1.pt.objs
          have d2 := lv1.pt.c1
          rw [hvo] at d2
          have hj2 : (j : Int) < (m.ls.length : Int) := by omega
          have hfe := unhide HFEW
          have HHM := hide hmb0
          have HBJ := hide hbj
          have HPJ := hide hpj
          have HVO := hide hvo
          clear lv0 lv1 hg1 hvo hbj hpj hmb0
          go_wp2_with fail
          clear d0 d1 d2
          rename World => wj
          go_loopg [44] p.objs.length (fun gg iv wy => ∃ (i : Nat), i ≤ p.objs.length ∧ gg = p.objs.length - i ∧ iv = .int .i64 i ∧ Hid (wl.grownBy wy (some mb) ∧ ∃ n', wy.ownsMap Try.prog 3 (plainElem Try.prog 3) mb n' (idsTo (idsAll D (M.L.take j)) p i) ∧ n' ≤ n + cntObjs (M.L.take j) + i))
          case atStart => exact ⟨0, Nat.zero_le _, rfl, rfl, (unhide HZ).1, by obtain ⟨n', a, b⟩ := (unhide HZ).2; exact ⟨n', a, by omega⟩⟩
          case round =>
            obtain ⟨i, hi, rfl, rfl, HV⟩ := hrel
            by_cases hli : i < p.objs.length
            · have hx : p.objs[i]? = some (p.objs[i]'hli) := List.getElem?_eq_getElem _
              have ha : p.went[i]? = some (p.went[i]'(by rw [(unhide HLV0).full]; exact hli)) := List.getElem?_eq_getElem _
              generalize (p.objs[i]'hli) = x at *
              generalize (p.went[i]'(by rw [(unhide HLV0).full]; exact hli)) = a at *
              have hg2 := (unhide HV).1
              have lv2 := (unhide HLV0).grown hg2 (unhide HHM)
              obtain ⟨gO, cO, hvo2, o0, o1, o2, o3, o4, o5⟩ := lv2.pt.obj hx
              have hvv := (unhide HVO).symm.trans hvo2
              cases hvv
              have hob : objAt M.L (j, i) = some x := by simp [objAt, unhide HPJ, hx]
              have hgn : goneTo M.L (j, i) = a := by simp [goneTo, unhide HPJ, ha]
              have hid := unhide HIDS (j, i) x hob
              have haI : I64 a := by
                by_cases e : a = 0
                · rw [e]; exact ⟨by omega, by omega⟩
                · obtain ⟨t, t1, t2, t3⟩ := (unhide HI).conv (j, i) (by rw [hgn]; exact e)
                  have := cnt_room M
                  have := (unhide HC).top
                  have := (unhide HC).ft
                  rw [← hgn, t3]
                  exact I64.of_small (by omega) (by omega)
              obtain ⟨wz, hwz⟩ : ∃ wz, wr.alloc (.cells #[.int .i64 x.kind, .int .i64 x.tag, .int .i64 x.id, .int .i64 (beginAt p.objs i), .int .i64 x.fs.length, .bool x.noted] 56) = wz := ⟨_, rfl⟩
              have hbz : Below wr.heap.size wr wz := by rw [← hwz]; exact (Below.refl _ _).alloc (Nat.le_refl _) _
              have hkz : wz.heap[wr.heap.size]? = some (.cells #[.int .i64 x.kind, .int .i64 x.tag, .int .i64 x.id, .int .i64 (beginAt p.objs i), .int .i64 x.fs.length, .bool x.noted] 56 (0, 0)) := by rw [← hwz]; exact hnew _ _
              have lv3 := lv2.keep hbz
              have y2 : wz.cell? ⟨wr.heap.size, 2, none⟩ = some (.int .i64 x.id) := hcell hkz 2
              have f1 := lv3.c1
              have f2 : wz.cell? ⟨b.wb, i, none⟩ = some (.int .i64 a) := by
                rw [hcell lv3.wn]
                simp [ha, iv]
              have hgz : wl.grownBy wz (some mb) := ⟨hbz.os.trans hg2.os, hbz.tape.trans hg2.tape, hbz.output.trans hg2.output, Nat.le_trans hg2.size hbz.size, fun k hk hne => (hbz.block k (Nat.lt_of_lt_of_le hk hg2.size)).trans (hg2.block k hk hne)⟩
              obtain ⟨n', hown, hnn⟩ := (unhide HV).2
              have hownz : wz.ownsMap Try.prog 3 (plainElem Try.prog 3) mb n' (idsTo (idsAll D (M.L.take j)) p i) := by rw [← hwz]; exact hown.alloc _
              have q9 : wz.cell? ⟨hp, 9, none⟩ = some (.map (some mb)) := (World.cell?_of_block (hgz.block hp (cell_lt (a := ⟨hp, 9, none⟩) (unhide H9)) (fun e => cell_ne (unhide H9) (unhide HHM) (Option.some.inj e)))).trans (unhide H9)
              have hsum := cntObjs_le (unhide HPJ)
              have htk := cntObjs_take M.L (j + 1)
              have hi2 : (i : Int) < (p.objs.length : Int) := by omega
              have hpl : p.objs.length ≤ 1000000000 := by have := unhide HCNT; omega
              have hmx : n' < maxLen := by have := unhide HCNT; unfold maxLen; omega
              have HGZ := hide hgz
              have HOZ := hide hownz
              have HST2 := hide (idsTo_step (D := idsAll D (M.L.take j)) hx ha)
              have HNN := hide hnn
              have HID := hide hid
              have HAI := hide haI
              have HMX := hide hmx
              clear hx ha hg2 lv2 hvo2 hob hgn hid haI hbz hkz lv3 hgz hown hownz hnn hsum htk hmx HVO
              by_cases hz : a = 0
              · subst hz
                have hbz0 : ((0 : Int) == 0) = true := rfl
                obtain ⟨wd, hrun, howd, htd⟩ := (unhide HOZ).drew.drop keyIntS Try.underlying49 (keyOf_int_mk Try.underlying3 (wf_of (unhide HID))) 0
                have HOD := hide howd
                have HTD := hide htd
                have hgd := htd.grown
                have hmz : ∃ es cl, wz.heap[mb]? = some (.map es cl) := by obtain ⟨es, cl, hb, _⟩ := unhide HOZ; exact ⟨es, cl, hb⟩
                obtain ⟨es9, cl9, hm9⟩ := hmz
                have u9 : wd.cell? ⟨hp, 9, none⟩ = some (.map (some mb)) := (World.cell?_of_block (hgd.block hp (cell_lt (a := ⟨hp, 9, none⟩) q9) (fun e => cell_ne q9 hm9 (Option.some.inj e)))).trans q9
                have u2 : wd.cell? ⟨wr.heap.size, 2, none⟩ = some (.int .i64 x.id) := (World.cell?_of_block (hgd.block wr.heap.size (cell_lt (a := ⟨wr.heap.size, 2, none⟩) y2) (fun e => cell_ne y2 hm9 (Option.some.inj e)))).trans y2
                clear howd htd hgd hm9
                go_wp2_with fail
                go_region_held3 (fun w' => w'.cell? ⟨hp, 9, none⟩ = some (.map (some mb)) ∧ w'.cell? ⟨wr.heap.size, 2, none⟩ = some (.int .i64 x.id)) (go_keep) (fail)
                all_goals
                  go_wp2_with fail
                  have hgx : wl.grownBy wd (some mb) := by
                    have q := (unhide HTD).grown
                    exact ⟨q.os.trans (unhide HGZ).os, q.tape.trans (unhide HGZ).tape, q.output.trans (unhide HGZ).output, Nat.le_trans (unhide HGZ).size q.size, fun k hk hne => (q.block k (Nat.lt_of_lt_of_le hk (unhide HGZ).size) hne).trans ((unhide HGZ).block k hk hne)⟩
                  go_roundg (p.objs.length - (i + 1))
                  case measure => omega
                  case rel => exact ⟨i + 1, by omega, rfl, by go_num, hgx, n', by rw [unhide HST2, idStep, if_pos rfl]; exact unhide HOD, by have := unhide HNN; omega⟩
              · have hbz0 : (a == 0) = false := by rw [beq_eq_false_iff_ne]; exact hz
                have HZ0 := hide hz
                by_cases hid0 : 0 < x.id
                · obtain ⟨wd, hrun, howd, htd⟩ := (unhide HOZ).drew.store keyIntS Try.underlying49 (unhide HMX) (keyOf_int_mk Try.underlying3 (wf_of (unhide HID))) (plainElem_int Try.underlying3 (wf_of (unhide HAI)))
                  have HOD := hide howd
                  have HTD := hide htd
                  have hgd := htd.grown
                  have hmz : ∃ es cl, wz.heap[mb]? = some (.map es cl) := by obtain ⟨es, cl, hb, _⟩ := unhide HOZ; exact ⟨es, cl, hb⟩
                  obtain ⟨es9, cl9, hm9⟩ := hmz
                  have u9 : wd.cell? ⟨hp, 9, none⟩ = some (.map (some mb)) := (World.cell?_of_block (hgd.block hp (cell_lt (a := ⟨hp, 9, none⟩) q9) (fun e => cell_ne q9 hm9 (Option.some.inj e)))).trans q9
                  have u2 : wd.cell? ⟨wr.heap.size, 2, none⟩ = some (.int .i64 x.id) := (World.cell?_of_block (hgd.block wr.heap.size (cell_lt (a := ⟨wr.heap.size, 2, none⟩) y2) (fun e => cell_ne y2 hm9 (Option.some.inj e)))).trans y2
                  have u3 := (World.cell?_of_block (hgd.block b.l (cell_lt (a := ⟨b.l, 1, none⟩) f1) (fun e => cell_ne f1 hm9 (Option.some.inj e)))).trans f1
                  have u4 := (World.cell?_of_block (hgd.block b.wb (cell_lt (a := ⟨b.wb, i, none⟩) f2) (fun e => cell_ne f2 hm9 (Option.some.inj e)))).trans f2
                  clear howd htd hgd hm9
                  go_wp2_with fail
                  go_region_held3 (fun w' => w'.cell? ⟨hp, 9, none⟩ = some (.map (some mb)) ∧ w'.cell? ⟨wr.heap.size, 2, none⟩ = some (.int .i64 x.id) ∧ w'.cell? ⟨b.l, 1, none⟩ = some (.slice (some ⟨b.wb, 0, none⟩) p.objs.length p.objs.length) ∧ w'.cell? ⟨b.wb, i, none⟩ = some (.int .i64 a)) (go_keep) (fail)
                  all_goals
                    go_wp2_with fail
                    have hgx : wl.grownBy wd (some mb) := by
                      have q := (unhide HTD).grown
                      exact ⟨q.os.trans (unhide HGZ).os, q.tape.trans (unhide HGZ).tape, q.output.trans (unhide HGZ).output, Nat.le_trans (unhide HGZ).size q.size, fun k hk hne => (q.block k (Nat.lt_of_lt_of_le hk (unhide HGZ).size) hne).trans ((unhide HGZ).block k hk hne)⟩
                    go_roundg (p.objs.length - (i + 1))
                    case measure => omega
                    case rel => exact ⟨i + 1, by omega, rfl, by go_num, hgx, n' + 1, by rw [unhide HST2, idStep, if_neg (unhide HZ0), if_pos hid0]; exact unhide HOD, by have := unhide HNN; omega⟩
                · go_wp2_with fail
                  go_roundg (p.objs.length - (i + 1))
                  case measure => omega
                  case rel => exact ⟨i + 1, by omega, rfl, by go_num, unhide HGZ, n', by rw [unhide HST2, idStep, if_neg (unhide HZ0), if_neg (by omega)]; exact unhide HOZ, by have := unhide HNN; omega⟩
            · obtain rfl : i = p.objs.length := by omega
              have hff3 : decide ((p.objs.length : Int) < (p.objs.length : Int)) = false := by simp
              have hpl : m.ls.length ≤ 1000 := hfe
              clear hli hi
              go_wp2_with fail
              go_roundg (m.ls.length - (j + 1))
              case measure => omega
              case rel =>
                obtain ⟨a1, n', a2, a3⟩ := unhide HV
                refine ⟨j + 1, by omega, rfl, by go_num, a1, n', ?_, ?_⟩
                · rw [idsAll_step (unhide HPJ), ← idsTo_all (unhide HLV0).full]
                  exact a2
                · rw [← cntObjs_le (unhide HPJ)]
                  omega
        · obtain rfl : j = m.ls.length := by omega
          have hff2 : decide ((m.ls.length : Int) < (m.ls.length : Int)) = false := by simp
          obtain ⟨es0, cl0, hmb0, _⟩ := unhide HOWN
          obtain ⟨a1, n', a2, a3⟩ := unhide HZ
          have lv0 := (unhide HMk).fr.lvs 0 b0 p0 (unhide HST).yb (unhide HST).yl
          have lv1 := lv0.grown a1 hmb0
          have hpb := (unhide HST).yp
          obtain ⟨hcs, T', hhp, hhs⟩ : ∃ hcs T', wl.heap[hp]? = some (.cells hcs T' (0, 0)) ∧ 12 < hcs.size := by
            rcases (unhide HST).hd with ⟨e1, _⟩ | e
            · rw [e1]
              exact ⟨_, _, (unhide HMk).tpart.blk, by rw [(unhide HMk).szn]; exact (unhide HST).hn e1⟩
            · obtain ⟨c9, t9, q1, q2⟩ := (unhide HST).hz
              exact ⟨c9, t9, ((unhide HL1).block hp e (unhide HST).hr).trans q1, q2⟩
          have hne : hp ≠ mb := by
            rintro e
            rw [e, hmb0] at hhp
            cases hhp
          have hhp1 : wr.heap[hp]? = some (.cells hcs T' (0, 0)) := (a1.block hp (hlt hhp) (fun e => hne (Option.some.inj e))).trans hhp
          have HHP1 := hide hhp1
          have HHP := hide hhp
          have HA1 := hide a1
          have HA2 := hide a2
          have HA3 := hide a3
          have HNE := hide hne
          have HPT := hide lv1.pt
          have HF0 := hide lv1.f0
          have HLO := hide lv1.lo
          have HHI := hide lv1.hi
          rw [hpb.1, hpb.2] at HPT HF0
          clear a1 a2 a3 lv0 lv1 hpb hhp hne hhp1 hmb0 hlj hj HZ
          go_wp2_with fail
          refine (next_any (unhide HPT) (unhide HF0) (unhide HLO) (unhide HHI)).mono ?_
          rintro e w9 ⟨rfl, hb9⟩
          have hh9 : w9.heap[hp]? = some (.cells hcs T' (0, 0)) := (hb9.block hp (hlt (unhide HHP1))).trans (unhide HHP1)
          have gt : ∀ c, c < 12 → ∃ u, w9.cell? ⟨hp, c, none⟩ = some u := fun c hc => ⟨_, (hcell hh9 c).trans (Array.getElem?_eq_getElem (by omega))⟩
          obtain ⟨x0, c0⟩ := gt 0 (by omega)
          obtain ⟨x1, c1⟩ := gt 1 (by omega)
          obtain ⟨x2, c2'⟩ := gt 2 (by omega)
          obtain ⟨x8, c8⟩ := gt 8 (by omega)
          have c1' := fun q => cell_off (v := q) (i := 0) c1 (by decide)
          have c2'' := fun q q' => cell_off2 (v := q) (v' := q') (i := 0) (i' := 1) c2' (by decide) (by decide)
          have c8' := fun q q' q'' => cell_off (v := q'') (i := 2) (cell_off2 (v := q) (v' := q') (i := 0) (i' := 1) c8 (by decide) (by decide)) (by decide)
          have z0 := hfroz hh9 0
          have z1 := hfroz hh9 1
          have z2 := hfroz hh9 2
          have z8 := hfroz hh9 8
          have HB9 := hide hb9
          have HH9 := hide hh9
          clear hb9 hh9 gt c1 c2' c8
          go_wp2_with fail
          go_end0
          have oth : ∀ k, k ≠ hp → ((((w9.setCell ⟨hp, 0, none⟩ (.int .i64 (p0.first + 2 * (p0.objs.length : Int)))).setCell ⟨hp, 1, none⟩ (.slice none 0 0)).setCell ⟨hp, 2, none⟩ (.slice none 0 0)).setCell ⟨hp, 8, none⟩ (.slice none 0 0)).heap[k]? = w9.heap[k]? := fun k hk => by rw [hother _ hk, hother _ hk, hother _ hk, hother _ hk]
          have htk : M.L.take m.ls.length = M.L := List.take_of_length_le (by have := unhide HLEN; omega)
          refine ⟨rfl, wl, cs', vto', vtf', hcs, T', n', unhide HRk, unhide HFk, unhide HMk, unhide HE1, unhide HE2, unhide HHP, hhs, ?_, ?_, hset (hset (hset (hset (unhide HH9) _ _) _ _) _ _) _ _, fun k hk h1 h2 => ?_, ?_, ?_, ?_, ?_⟩
          · obtain ⟨es, cl, hb, rest⟩ := unhide HA2
            rw [htk] at rest
            exact ⟨es, cl, (oth mb (Ne.symm (unhide HNE))).trans (((unhide HB9).block mb (hlt hb)).trans hb), rest⟩
          · have := unhide HA3
            rw [htk] at this
            exact this
          · rw [oth k h2, (unhide HB9).block k (Nat.lt_of_lt_of_le hk (unhide HA1).size)]
            exact (unhide HA1).block k hk (fun e => h1 (Option.some.inj e))
          · have := Nat.le_trans (unhide HA1).size (unhide HB9).size
            simpa [World.setCell] using this
          · exact (unhide HB9).os.trans (unhide HA1).os
          · exact (unhide HB9).tape.trans (unhide HA1).tape
          · exact (unhide HB9).output.trans (unhide HA1).output
end Go.Proofs.Ytddfdefgdlfpmaa

namespace Go.Proofs.Ytddfdefgdlfpmaa
open Go.RowKit Go.Maps

/-- Nothing has gone yet. -/
def Fresh (L : List PL) : Prop := ∀ p ∈ L, p.went = List.replicate p.objs.length 0
theorem Fresh.full {L : List PL} (h : Fresh L) : Full L := fun p hp => by rw [h p hp]; simp
theorem Fresh.gone {L : List PL} (h : Fresh L) (q : Nat × Nat) : goneTo L q = 0 := by
  unfold goneTo
  cases hL : L[q.1]? with
  | none => rfl
  | some p =>
    show ((p.went)[q.2]?).getD 0 = 0
    rw [h p (List.mem_of_getElem? hL), List.getElem?_replicate]
    split <;> rfl
theorem MInv.start {M : MS} (h : Fresh M.L) (hft : 0 < M.ft) : MInv M.T.length (allF M.T).length M :=
  ⟨h.full, hft, Nat.le_refl _, Nat.le_refl _, fun q hq => absurd (h.gone q) hq, fun q q' hq => absurd (h.gone q) hq, fun t y ht hy => by
    have := (List.getElem?_eq_some_iff.1 hy).1
    omega, fun t q x k v ht htl => by omega⟩
theorem zip_rep (f : HO → Nat) : ∀ l : List HO, ((l.zip (List.replicate l.length (0 : Int))).map fun z => if z.2 = 0 then f z.1 else 0).sum = (l.map f).sum
  | [] => rfl
  | x :: r => by
    have := zip_rep f r
    simp only [List.length_cons, List.replicate_succ, List.zip_cons_cons, List.map_cons, List.sum_cons, if_true, this]
theorem restW_fresh (f : HO → Nat) : ∀ {L : List PL}, Fresh L → restW f L = (L.map fun p => (p.objs.map f).sum).sum
  | [], _ => rfl
  | p :: r, h => by
    have h1 := restW_fresh f (L := r) (fun q hq => h q (List.mem_cons_of_mem _ hq))
    unfold restW at *
    simp only [List.map_cons, List.sum_cons, h1]
    rw [h p (List.mem_cons_self ..), zip_rep]
theorem sum_fs (l : List HO) : (l.map fun x => x.fs.length).sum = (allF l).length := by
  induction l with
  | nil => rfl
  | cons x r ih => simp only [List.map_cons, List.sum_cons, ih, allF, List.flatMap_cons, List.length_append]
theorem sum_one : ∀ l : List HO, (l.map fun _ => 1).sum = l.length
  | [] => rfl
  | x :: r => by
    rw [List.map_cons, List.sum_cons, sum_one r, List.length_cons]
    omega
theorem Cap.rest : ∀ (f : Nat) {k0 s : Nat} {M : MS}, Cap M → MInv k0 s M → Cap (restM f M s)
  | 0, _, _, _, h, _ => h
  | f + 1, k0, s, M, h, hi => by
    rw [restM]
    split
    · rename_i hlt
      exact Cap.rest f (h.field hi s) (hi.field hlt).1
    · exact h
theorem Cap.roots {k0 s : Nat} : ∀ (l : List HV) {M : MS}, Cap M → MInv k0 s M → (∀ v ∈ l, I64 v.n) → Cap (rootsM M l)
  | [], _, h, _, _ => h
  | v :: l, _, h, hi, hn => Cap.roots l (h.move hi (hn v (List.mem_cons_self ..))).1 (hi.move v).1 (fun u hu => hn u (List.mem_cons_of_mem _ hu))
end Go.Proofs.Ytddfdefgdlfpmaa

namespace Go.Proofs.Ytddfdefgdlfpmaa
open Go.RowKit Go.Maps

/-- A heap, with where identities lie; its rows lie apart. -/
structure HpG (B : Nat) (w : World) (hp mb : Nat) (P : PHp) (D : DataW Unit) (n : Nat) (vyo vyf voo vof vn : Value) : Prop where
  at' : HpAt B w hp mb P vyo vyf voo vof vn
  own : w.ownsMap Try.prog 3 (plainElem Try.prog 3) mb n D
  ao : ∀ j, vyo.ownBlock = some j → voo.ownBlock ≠ some j
  af : ∀ j, vyf.ownBlock = some j → vof.ownBlock ≠ some j
  small : Small P
  few : Few P
  two : 2 ≤ P.fo
  cnt : P.Y.length + P.O.length + 1 ≤ 5000000
  pot : (allF P.Y).length + (allF P.O).length ≤ 10000000
  top : P.fo + 2 * P.O.length + 2 * (P.Y.length + P.O.length) + 2 ≤ 4611686018427387904
  vals : ∀ x ∈ P.Y ++ P.O, I64 x.id ∧ ∀ v ∈ x.fs, I64 v.n
  hB : B ≤ w.heap.size
/-- Both parts are left. -/
def majM (P : PHp) : MS := ⟨P.fo + 2 * P.O.length, [], [⟨P.fy, P.Y, List.replicate P.Y.length 0⟩, ⟨P.fo, P.O, List.replicate P.O.length 0⟩]⟩
theorem maj_fresh (P : PHp) : Fresh (majM P).L := by
  intro p hp
  simp [majM] at hp
  rcases hp with rfl | rfl <;> rfl
theorem maj_cap {B : Nat} {w : World} {hp mb : Nat} {P : PHp} {D : DataW Unit} {n : Nat} {vyo vyf voo vof vn : Value} (h : HpG B w hp mb P D n vyo vyf voo vof vn) : Cap (majM P) := by
  have h1 := h.two
  have h2 := h.cnt
  have h3 := h.pot
  have h4 := h.top
  have ec : Go.Proofs.Ytddfdefgdlfpmaa.cnt (majM P) = P.Y.length + P.O.length := by
    unfold Go.Proofs.Ytddfdefgdlfpmaa.cnt
    rw [restW_fresh _ (maj_fresh P)]
    simp [majM, sum_one]
  have ep : Go.Proofs.Ytddfdefgdlfpmaa.pot (majM P) = (allF P.Y).length + (allF P.O).length := by
    unfold Go.Proofs.Ytddfdefgdlfpmaa.pot restOf
    rw [restW_fresh _ (maj_fresh P)]
    simp only [majM, List.map_cons, List.map_nil, List.sum_cons, List.sum_nil, sum_fs]
    simp [allF]
  refine ⟨by simp only [majM]; omega, by rw [ec]; omega, by rw [ec]; simp only [majM]; omega, by rw [ep]; exact h3, (maj_fresh P).full, fun v hv => by simp [majM, allF] at hv, fun q x hq v hv => ?_⟩
  have hx : x ∈ P.Y ++ P.O := by
    unfold objAt majM at hq
    obtain ⟨i, k⟩ := q
    match i with
    | 0 => exact List.mem_append_left _ (List.mem_of_getElem? (by simpa using hq))
    | 1 => exact List.mem_append_right _ (List.mem_of_getElem? (by simpa using hq))
    | i + 2 => simp at hq
  exact (h.vals x hx).2 v hv
theorem maj_out {B : Nat} {w : World} {hp mb : Nat} {P : PHp} {D : DataW Unit} {n : Nat} {vyo vyf voo vof vn : Value} (h : HpG B w hp mb P D n vyo vyf voo vof vn) (t : Nat) : leadsTo (majM P).L 0 ((majM P).ft + 2 * t) = none := by
  have h1 := h.small.yo
  have h2 := h.small.oe
  simp only [majM, leadsTo]
  rw [numIn_none' (fun i hi => by omega)]
  simp only
  rw [numIn_none' (fun i hi => by omega)]
end Go.Proofs.Ytddfdefgdlfpmaa

namespace Go.Proofs.Ytddfdefgdlfpmaa
open Go.RowKit Go.Maps

/-- The nursery is left, for the old part. -/
def minM (P : PHp) : MS := ⟨P.fo, P.O, [⟨P.fy, P.Y, List.replicate P.Y.length 0⟩]⟩
theorem min_fresh (P : PHp) : Fresh (minM P).L := by
  intro p hp
  simp [minM] at hp
  subst hp
  rfl
theorem HpG.keep {B : Nat} {w w' : World} {hp mb : Nat} {P : PHp} {D : DataW Unit} {n : Nat} {vyo vyf voo vof vn : Value} (h : HpG B w hp mb P D n vyo vyf voo vof vn) (hb : Below w.heap.size w w') : HpG B w' hp mb P D n vyo vyf voo vof vn := by
  obtain ⟨a, ⟨es, cl, h1, h2⟩, c, d, e, f, g, i, j, k, l, m⟩ := h
  exact ⟨a.keep hb, ⟨es, cl, (hb.block mb (hlt h1)).trans h1, h2⟩, c, d, e, f, g, i, j, k, l, Nat.le_trans m hb.size⟩
theorem min_cap {B : Nat} {w : World} {hp mb : Nat} {P : PHp} {D : DataW Unit} {n : Nat} {vyo vyf voo vof vn : Value} (h : HpG B w hp mb P D n vyo vyf voo vof vn) : Cap (minM P) := by
  have h1 := h.two
  have h2 := h.cnt
  have h3 := h.pot
  have h4 := h.top
  have ec : Go.Proofs.Ytddfdefgdlfpmaa.cnt (minM P) = P.O.length + P.Y.length := by
    unfold Go.Proofs.Ytddfdefgdlfpmaa.cnt
    rw [restW_fresh _ (min_fresh P)]
    simp [minM, sum_one]
  have ep : Go.Proofs.Ytddfdefgdlfpmaa.pot (minM P) = (allF P.O).length + (allF P.Y).length := by
    unfold Go.Proofs.Ytddfdefgdlfpmaa.pot restOf
    rw [restW_fresh _ (min_fresh P)]
    simp only [minM, List.map_cons, List.map_nil, List.sum_cons, List.sum_nil, sum_fs]
    omega
  refine ⟨by simp only [minM]; omega, by rw [ec]; omega, by rw [ec]; simp only [minM]; omega, by rw [ep]; omega, (min_fresh P).full, fun v hv => ?_, fun q x hq v hv => ?_⟩
  · have hv : v ∈ allF P.O := hv
    unfold allF at hv
    obtain ⟨x, hx, hvx⟩ := List.mem_flatMap.1 hv
    exact (h.vals x (List.mem_append_right _ hx)).2 v hvx
  · have hx : x ∈ P.Y ++ P.O := by
      unfold objAt minM at hq
      obtain ⟨i, k⟩ := q
      match i with
      | 0 => exact List.mem_append_left _ (List.mem_of_getElem? (by simpa using hq))
      | i + 1 => simp at hq
    exact (h.vals x hx).2 v hv
theorem min_out {B : Nat} {w : World} {hp mb : Nat} {P : PHp} {D : DataW Unit} {n : Nat} {vyo vyf voo vof vn : Value} (h : HpG B w hp mb P D n vyo vyf voo vof vn) (t : Nat) : leadsTo (minM P).L 0 ((minM P).ft + 2 * t) = none := by
  have h1 := h.small.yo
  have h2 := h.small.oe
  simp only [minM, leadsTo]
  rw [numIn_none' (fun i hi => by omega)]
/-- The world once what takes objects is made. -/
def minW (w0 : World) (hp n : Nat) : World := moverW ((leftW w0 hp 0 n).alloc (.cells #[.pointer (some ⟨w0.heap.size + 1, 0, none⟩)] 65)) hp 3 (w0.heap.size + 2) 1 1
def minB (w0 : World) (hp : Nat) (vyo vyf : Value) : Mb := ⟨w0.heap.size + 4, w0.heap.size + 3, w0.heap.size + 2, 1, hp, 3, 13, [⟨w0.heap.size + 1, hp, 0, w0.heap.size, vyo, vyf⟩]⟩
theorem minW_below (w0 : World) (hp n : Nat) : Below w0.heap.size w0 (minW w0 hp n) := by
  have h1 := leftW_below w0 hp 0 n
  have h2 : Below w0.heap.size w0 ((leftW w0 hp 0 n).alloc (.cells #[.pointer (some ⟨w0.heap.size + 1, 0, none⟩)] 65)) := h1.alloc h1.size _
  exact h2.trans ((moverW_below _ _ _ _ _ _).mono h2.size)
theorem minor_begin {B : Nat} {w0 : World} {hp mb : Nat} {P : PHp} {D : DataW Unit} {n : Nat} {vyo vyf voo vof vn : Value} (h : HpG B w0 hp mb P D n vyo vyf voo vof vn) :
    MvAt B (minW w0 hp P.Y.length) (minB w0 hp vyo vyf) (minM P) (hpCells P vyo vyf voo vof vn mb) 51 voo vof := by
  have hb := minW_below w0 hp P.Y.length
  have hk := (h.keep hb).at'
  have s1 := leftW_size w0 hp 0 P.Y.length
  have z2 : ((leftW w0 hp 0 P.Y.length).alloc (.cells #[.pointer (some ⟨w0.heap.size + 1, 0, none⟩)] 65)).heap.size = w0.heap.size + 3 := by simp [s1]
  have b1 : Below (leftW w0 hp 0 P.Y.length).heap.size (leftW w0 hp 0 P.Y.length) (minW w0 hp P.Y.length) := by
    have q : Below (leftW w0 hp 0 P.Y.length).heap.size (leftW w0 hp 0 P.Y.length) ((leftW w0 hp 0 P.Y.length).alloc (.cells #[.pointer (some ⟨w0.heap.size + 1, 0, none⟩)] 65)) := (Below.refl _ _).alloc (Nat.le_refl _) _
    exact q.trans ((moverW_below _ _ _ _ _ _).mono q.size)
  have kfb : (minW w0 hp P.Y.length).heap[w0.heap.size + 3]? = some (.cells #[.slice (some ⟨w0.heap.size + 2, 0, none⟩) 1 1] 83 (0, 0)) := by
    have := moverW_fb ((leftW w0 hp 0 P.Y.length).alloc (.cells #[.pointer (some ⟨w0.heap.size + 1, 0, none⟩)] 65)) hp 3 (w0.heap.size + 2) 1 1
    rw [z2] at this
    exact this
  have kmv : (minW w0 hp P.Y.length).heap[w0.heap.size + 4]? = some (.cells #[.pointer (some ⟨hp, 3, none⟩), .func (.func 36) #[] #[.pointer (some ⟨w0.heap.size + 3, 0, none⟩)]] 86 (0, 0)) := by
    have := moverW_mv ((leftW w0 hp 0 P.Y.length).alloc (.cells #[.pointer (some ⟨w0.heap.size + 1, 0, none⟩)] 65)) hp 3 (w0.heap.size + 2) 1 1
    rw [z2] at this
    exact this
  have klb : (minW w0 hp P.Y.length).heap[w0.heap.size + 2]? = some (.cells #[.pointer (some ⟨w0.heap.size + 1, 0, none⟩)] 65 (0, 0)) := by
    have q := hnew (leftW w0 hp 0 P.Y.length) (.cells #[.pointer (some ⟨w0.heap.size + 1, 0, none⟩)] 65)
    rw [s1] at q
    exact ((moverW_below _ hp 3 (w0.heap.size + 2) 1 1).block (w0.heap.size + 2) (by rw [z2]; omega)).trans q
  have lv : LvAt B (minW w0 hp P.Y.length) ⟨w0.heap.size + 1, hp, 0, w0.heap.size, vyo, vyf⟩ ⟨P.fy, P.Y, List.replicate P.Y.length 0⟩ := leave_at (h.at'.young h.few) (hcell h.at'.blk 0) h.small.y0 h.small.y1 b1
  have hcn := h.cnt
  refine ⟨hcell kmv 0, hcell kmv 1, ⟨hcell kfb 0, fun j b hj => ?_, rfl, by simp [minB], fun j b p hj hp' => ?_⟩, ⟨hk.blk, rfl, rfl, rfl, hk.oo, hk.of', h.few.o, by simp only [minM]; omega, by decide, by decide⟩, by simp [minB, hpCells], Nat.le_trans h.hB hb.size, Or.inl rfl, ⟨_, _, kmv⟩, ⟨_, _, kfb⟩, ⟨_, _, klb⟩, fun b hb' => ?_, fun b hb' => ?_, fun b hb' _ => ?_, fun b hb' j hj => ?_, fun b hb' j hj => ?_, fun i j b b' hi hj hne => ?_, rfl⟩
  · match j with
    | 0 => simp [minB] at hj; subst hj; exact hcell klb 0
    | j + 1 => simp [minB] at hj
  · match j with
    | 0 => simp [minB] at hj; simp [minM] at hp'; subst hj; subst hp'; exact lv
    | j + 1 => simp [minB] at hj
  · simp [minB] at hb'
    subst hb'
    exact ⟨_, _, (b1.block (w0.heap.size + 1) (by rw [s1]; omega)).trans (leftW_l _ _ _ _)⟩
  · simp [minB] at hb'
    subst hb'
    exact ⟨_, Or.inl rfl, ⟨_, _, hk.blk⟩⟩
  · simp [minB] at hb'
    subst hb'
    exact Or.inl (by simp [minB])
  · simp [minB] at hb'
    subst hb'
    exact fun e => h.ao j e hj
  · simp [minB] at hb'
    subst hb'
    exact fun e => h.af j e hj
  · match i, j with
    | 0, 0 => exact absurd rfl hne
    | 0, j + 1 => simp [minB] at hj
    | i + 1, _ => simp [minB] at hi
end Go.Proofs.Ytddfdefgdlfpmaa
