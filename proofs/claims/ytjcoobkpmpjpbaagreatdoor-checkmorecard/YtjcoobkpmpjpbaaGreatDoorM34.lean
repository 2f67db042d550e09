/-
  Fields of the classes above, then of a class itself.
-/
import Derived.Test.YtjcoobkpmpjpbaaGreatDoorM33
import Derived.Sort.CutIn
namespace Go.Proofs.YtjcoobkpmpjpbaaGreatDoor
open Go.RowKit Go.Maps Go.Shelf
set_option linter.unusedVariables false
attribute [local go_sem] Oper.semAt_some

/-- Fields, or one is there twice. -/
def FldPost (w : World) (cs : List Tree) (i : Nat) (e : Ending) (w' : World) : Prop := Below w.heap.size w w' ∧ (((fieldsAll cs i).Nodup ∧ ∃ v, e = .returned (.tuple #[v, .nilIface]) ∧ ∃ a n k, v = .slice a n k) ∨ (¬ (fieldsAll cs i).Nodup ∧ ∃ v tt pp, e = .returned (.tuple #[v, .iface tt pp])))
/-- Between two classes. -/
def FInv (w : World) (cs : List Tree) (hp i : Nat) (pre : List (Fin cs.length)) (W : World) : Prop := ∃ o, freshRun [] (flds cs (pre.map Fin.val)) = some o ∧ FI w hp i o (pre.length * 1000000) W
/-- A field was there already. -/
def FBad (w : World) (cs : List Tree) (c : Code) (pre : List (Fin cs.length)) (W : World) : Prop := c = .ret ∧ freshRun [] (flds cs (pre.map Fin.val)) = none ∧ Below w.heap.size w W ∧ ∃ v tt pp, W.heap[w.heap.size + 2]? = some (.cells #[v] 52 (0, 0)) ∧ W.heap[w.heap.size + 3]? = some (.cells #[.iface tt pp] 28 (0, 0))

theorem flds_app (cs : List Tree) (a b : List Nat) : flds cs (a ++ b) = flds cs a ++ flds cs b := by
  unfold flds
  rw [List.map_append, List.flatten_append]
/-- The world where the classes come. -/
def fW (w : World) (hp i : Nat) : World := (((((((((w.alloc (.cells #[.pointer (some ⟨hp, 0, none⟩)] 43)).alloc (.cells #[.int .i64 (i : Int)] 3)).alloc (.cells #[.slice none 0 0] 52)).alloc (.cells #[.nilIface] 28)).alloc (.cells #[.slice none 0 0] 52)).alloc (.map #[] 0)).alloc (.cells #[.map (some (w.heap.size + 5))] 66)).alloc (.cells #[.pointer (some ⟨hp, 0, none⟩)] 43)).alloc (.cells #[.int .i64 (i : Int)] 3))
theorem fW_size (w : World) (hp i : Nat) : (fW w hp i).heap.size = w.heap.size + 9 := by simp [fW]
theorem fW_at (w : World) (hp i : Nat) : (fW w hp i).heap[w.heap.size]? = some (.cells #[.pointer (some ⟨hp, 0, none⟩)] 43 (0, 0)) ∧ (fW w hp i).heap[w.heap.size + 1]? = some (.cells #[.int .i64 (i : Int)] 3 (0, 0)) ∧ (fW w hp i).heap[w.heap.size + 2]? = some (.cells #[.slice none 0 0] 52 (0, 0)) ∧ (fW w hp i).heap[w.heap.size + 3]? = some (.cells #[.nilIface] 28 (0, 0)) ∧ (fW w hp i).heap[w.heap.size + 4]? = some (.cells #[.slice none 0 0] 52 (0, 0)) ∧ (fW w hp i).heap[w.heap.size + 5]? = some (.map #[] 0) ∧ (fW w hp i).heap[w.heap.size + 6]? = some (.cells #[.map (some (w.heap.size + 5))] 66 (0, 0)) ∧ (fW w hp i).heap[w.heap.size + 7]? = some (.cells #[.pointer (some ⟨hp, 0, none⟩)] 43 (0, 0)) ∧ (fW w hp i).heap[w.heap.size + 8]? = some (.cells #[.int .i64 (i : Int)] 3 (0, 0)) := by
  unfold fW
  exact ⟨(hold _ _ (by simp only [World.size_alloc]; omega)).trans ((hold _ _ (by simp only [World.size_alloc]; omega)).trans ((hold _ _ (by simp only [World.size_alloc]; omega)).trans ((hold _ _ (by simp only [World.size_alloc]; omega)).trans ((hold _ _ (by simp only [World.size_alloc]; omega)).trans ((hold _ _ (by simp only [World.size_alloc]; omega)).trans ((hold _ _ (by simp only [World.size_alloc]; omega)).trans ((hold _ _ (by simp only [World.size_alloc]; omega)).trans (hnewAt _ _ (by first | rfl | (simp only [World.size_alloc])))))))))), (hold _ _ (by simp only [World.size_alloc]; omega)).trans ((hold _ _ (by simp only [World.size_alloc]; omega)).trans ((hold _ _ (by simp only [World.size_alloc]; omega)).trans ((hold _ _ (by simp only [World.size_alloc]; omega)).trans ((hold _ _ (by simp only [World.size_alloc]; omega)).trans ((hold _ _ (by simp only [World.size_alloc]; omega)).trans ((hold _ _ (by simp only [World.size_alloc]; omega)).trans (hnewAt _ _ (by first | rfl | (simp only [World.size_alloc]))))))))), (hold _ _ (by simp only [World.size_alloc]; omega)).trans ((hold _ _ (by simp only [World.size_alloc]; omega)).trans ((hold _ _ (by simp only [World.size_alloc]; omega)).trans ((hold _ _ (by simp only [World.size_alloc]; omega)).trans ((hold _ _ (by simp only [World.size_alloc]; omega)).trans ((hold _ _ (by simp only [World.size_alloc]; omega)).trans (hnewAt _ _ (by first | rfl | (simp only [World.size_alloc])))))))), (hold _ _ (by simp only [World.size_alloc]; omega)).trans ((hold _ _ (by simp only [World.size_alloc]; omega)).trans ((hold _ _ (by simp only [World.size_alloc]; omega)).trans ((hold _ _ (by simp only [World.size_alloc]; omega)).trans ((hold _ _ (by simp only [World.size_alloc]; omega)).trans (hnewAt _ _ (by first | rfl | (simp only [World.size_alloc]))))))), (hold _ _ (by simp only [World.size_alloc]; omega)).trans ((hold _ _ (by simp only [World.size_alloc]; omega)).trans ((hold _ _ (by simp only [World.size_alloc]; omega)).trans ((hold _ _ (by simp only [World.size_alloc]; omega)).trans (hnewAt _ _ (by first | rfl | (simp only [World.size_alloc])))))), (hold _ _ (by simp only [World.size_alloc]; omega)).trans ((hold _ _ (by simp only [World.size_alloc]; omega)).trans ((hold _ _ (by simp only [World.size_alloc]; omega)).trans (hnewAt _ _ (by first | rfl | (simp only [World.size_alloc]))))), (hold _ _ (by simp only [World.size_alloc]; omega)).trans ((hold _ _ (by simp only [World.size_alloc]; omega)).trans (hnewAt _ _ (by first | rfl | (simp only [World.size_alloc])))), (hold _ _ (by simp only [World.size_alloc]; omega)).trans (hnewAt _ _ (by first | rfl | (simp only [World.size_alloc]))), hnewAt _ _ (by first | rfl | (simp only [World.size_alloc]))⟩
theorem fW_below (w : World) (hp i : Nat) : Below w.heap.size w (fW w hp i) := by
  unfold fW
  exact (((((((((Below.refl _ w).alloc (Nat.le_refl _) _).alloc (by simp) _).alloc (by simp; omega) _).alloc (by simp; omega) _).alloc (by simp; omega) _).alloc (by simp; omega) _).alloc (by simp; omega) _).alloc (by simp; omega) _).alloc (by simp; omega) _
theorem fW_inv (w : World) (cs : List Tree) (hp i : Nat) : FInv w cs hp i [] (fW w hp i) := by
  obtain ⟨a0, a1, a2, a3, a4, a5, a6, _, _⟩ := fW_at w hp i
  have hn := NamesAt.made (((((w.alloc (.cells #[.pointer (some ⟨hp, 0, none⟩)] 43)).alloc (.cells #[.int .i64 (i : Int)] 3)).alloc (.cells #[.slice none 0 0] 52)).alloc (.cells #[.nilIface] 28)).alloc (.cells #[.slice none 0 0] 52))
  have hh := hnew (((((w.alloc (.cells #[.pointer (some ⟨hp, 0, none⟩)] 43)).alloc (.cells #[.int .i64 (i : Int)] 3)).alloc (.cells #[.slice none 0 0] 52)).alloc (.cells #[.nilIface] 28)).alloc (.cells #[.slice none 0 0] 52)) (.map #[] 0)
  simp only [World.size_alloc, Nat.add_assoc, Nat.reduceAdd] at hn hh
  exact ⟨[], rfl, fW_below w hp i, a0, a1, a2, a3, a6, hn.move (a5.trans hh.symm), Nat.zero_le _, _, 0, [], a4, World.ownsRow_nil _ _ _ _, Nat.zero_le _⟩
set_option maxRecDepth 100000 in
set_option maxHeartbeats 8000000 in
theorem fields_any {M : Nat} {w : World} {hp nb : Nat} {vcl vfn : Value} {cs fns : List Tree} (h : HdAt M w hp nb vcl vfn cs fns) (hM : M ≤ w.heap.size) (hw : ∀ c ∈ cs, Wf c) (hk : ∀ c ∈ cs, c.kids.length ≤ 1000000) (he : EndOk cs) (hcl : cs.length ≤ 1000000) {i : Nat} {c : Tree} (hc : cs[i]? = some c) :
    Calls Tryz.prog 26 #[.pointer (some ⟨hp, 0, none⟩), .int .i64 (i : Int)] w fun e w' => FldPost w cs i e w' := by
  have H := hide h
  have HM := hide hM
  have HWF := hide hw
  have HKL := hide hk
  have HE := hide he
  have HCL := hide hcl
  have HC := hide hc
  clear h hM hw hk he hcl hc
  refine (callsIn_wide (n := 3)).1 ?_
  refine callsIn_of_wp_marks Tryz.func26 rfl trivial ?_ rfl
  simp only [Tryz.ntmps26, List.size_toArray, List.length_cons, List.length_nil, Nat.reduceAdd, Nat.reduceSub, Array.replicate_succ, Array.replicate_zero, List.push_toArray, List.append_toArray, List.nil_append, List.cons_append]
  gi_wp2
  refine ⟨trivial, (callsIn_wide.2 (newNames_any _)).mono ?_⟩
  rintro e w1 ⟨rfl, rfl⟩
  gi_wp2
  refine ⟨trivial, (callsIn_wide.2 (down_any _ _ _)).mono ?_⟩
  rintro e w1 ⟨rfl, rfl⟩
  gi_wp2
  simp only [Nat.add_assoc, Nat.reduceAdd]
  change Code.wpIn _ _ _ _ _ _ (fW w hp i)
  have hi := (List.getElem?_eq_some_iff.1 (unhide HC)).1
  obtain ⟨a0, a1, a2, a3, a4, a5, a6, a7, a8⟩ := fW_at w hp i
  have hz := fW_size w hp i
  have hb := fW_below w hp i
  have hseq := down1_any ((unhide H).keep (w' := fW w hp i) fun k hk => hb.block k (Nat.lt_of_lt_of_le hk (unhide HM))) (by have := unhide HM; omega) (fun c hc => (unhide HWF c hc).here.2.2) (unhide HE) (unhide HCL) hi (hcell a8 0) (hcell a7 0) 2
  have HB0 := hide hb
  have HZ := hide hz
  clear a0 a1 a2 a3 a4 a5 a6 a7 a8 hb
  refine wpIn_rangeFunc_ownG (F := Fence.wide) (n := 3) rfl (by decide) (gf := 69) (lb := #[.pointer (some ⟨w.heap.size + 8, 0, none⟩), .pointer (some ⟨w.heap.size + 7, 0, none⟩)]) rfl trivial (enters_of Tryz.func69 (by kernel_rfl) rfl) hseq (fun h k => KInt.trans h k) kint_b (Below.refl _ _) (fun _ => rfl) (FInv w cs hp i) (FBad w cs) ?hI ?hIx (fW_inv w cs hp i) (fun x => { tmps := #[.pointer (some ⟨hp, 0, none⟩), .int .i64 (i : Int), .pointer (some ⟨w.heap.size, 0, none⟩), .pointer (some ⟨w.heap.size + 1, 0, none⟩), .pointer (some ⟨w.heap.size + 2, 0, none⟩), .pointer (some ⟨w.heap.size + 3, 0, none⟩), .pointer (some ⟨w.heap.size + 4, 0, none⟩), .pointer (some ⟨w.heap.size + 6, 0, none⟩), intV x.val, undef, undef, .map (some (w.heap.size + 5)), .pointer (some ⟨hp, 0, none⟩), .int .i64 (i : Int), .func (.func 69) #[] #[.pointer (some ⟨w.heap.size + 8, 0, none⟩), .pointer (some ⟨w.heap.size + 7, 0, none⟩)], intV x.val, undef, undef, undef, undef, undef, undef, undef, undef, undef, undef, undef, undef, undef, undef, undef, undef, undef, undef, undef, undef, undef, undef, undef, undef, undef, undef, undef, undef, undef, undef, undef, undef, undef, undef, undef, undef, undef, undef, undef, undef, undef, undef], defers := [] }) ?assign ?body ?done ?stop
  case hI =>
    rintro pre A B row ⟨o, h1, h2⟩ hg hr
    rw [hz] at hr
    exact ⟨o, h1, h2.own hg hr⟩
  case hIx =>
    rintro c pre A B row ⟨h1, h2, h3, v, tt, pp, h4, h5⟩ hg hr
    rw [hz] at hr
    exact ⟨h1, h2, h3.grown hg h3.size (fun k hk => by have := (hr k hk).1; omega), v, tt, pp, (hg.block _ (Array.getElem?_eq_some_iff.1 h4).1 (fun e => by have := (hr _ e.symm).1; omega)).trans h4, (hg.block _ (Array.getElem?_eq_some_iff.1 h5).1 (fun e => by have := (hr _ e.symm).1; omega)).trans h5⟩
  case assign =>
    intro l x W K hK
    gi_wp2
    exact hK
  case body =>
    rintro l pre x W ⟨o, ho, hF⟩ hlen
    obtain ⟨d, hd⟩ : ∃ d, cs[x.val]? = some d := ⟨_, List.getElem?_eq_getElem x.isLt⟩
    have hHW := (unhide H).keep (w' := W) fun k hk => hF.bel.block k (Nat.lt_of_lt_of_le hk (unhide HM))
    have c0 := hcell hF.bh 0
    have b0 : W.cell? ⟨hp, 0, none⟩ = some vcl := hcell hHW.blk 0
    obtain ⟨g, cap, e1, hmax, hat⟩ := hHW.cls
    subst e1
    obtain ⟨a, bd, rfl, ha, k0, hnd⟩ := hat x.val d hd
    obtain ⟨ks, hv⟩ := node_view hnd
    have HKD := hide hv.kids
    have d5 := hv.c5
    obtain ⟨kg, kcap, rfl, _, _⟩ := hv.kids
    have hxl : (x.val : Int) < (cs.length : Int) := by have := x.isLt; omega
    have hmem := List.mem_of_getElem? hd
    obtain ⟨Lk, hLk⟩ : ∃ Lk, d.kids.length = Lk := ⟨_, rfl⟩
    have HLEN := hide hLk
    rw [hLk] at d5 HKD
    have hlk : Lk ≤ 1000000 := by have := unhide HKL d hmem; omega
    have HWD := hide (unhide HWF d hmem)
    have HFI := hide (hF.mono (m' := pre.length * 1000000 + 0) (by omega))
    have HFL := hide (show freshRun [] (flds cs ((pre ++ [x]).map Fin.val)) = freshRun o (fldF d.kids) by
      rw [List.map_append, List.map_singleton, flds_snoc hd, freshRun_app, ho]
      rfl)
    have HBW := hide hF.bel
    have HPL := hide (show pre.length * 1000000 + 1000000 ≤ 1000001000000 by have := unhide HCL; omega)
    obtain ⟨R, hR⟩ : ∃ R, freshRun [] (flds cs ((pre ++ [x]).map Fin.val)) = R := ⟨_, rfl⟩
    have HR := hide hR
    obtain ⟨xv, hxv⟩ : ∃ xv, x.val = xv := ⟨_, rfl⟩
    have HXV := hide hxv
    simp only [List.getElem?_toArray, List.getElem?_cons_zero] at c0
    unfold intV
    rw [hxv] at k0 hxl ⊢
    rw [hR] at HFL
    clear ho hF hHW hat hnd hv hd hmem hlen hmax hseq hz hLk hR hxv
    gi_wp2
    gi_loopg [27] Lk (fun gg iv wr => ∃ (k : Nat) (o' : List ByteArray), k ≤ Lk ∧ gg = Lk - k ∧ iv = .int .i64 k ∧ Hid (FI w hp i o' (pre.length * 1000000 + k) wr) ∧ Hid (Stp (w.heap.size + 9) W wr) ∧ Hid (R = freshRun o' (fldF (d.kids.drop k))))
    case atStart => exact ⟨0, o, Nat.zero_le _, rfl, rfl, HFI, Stp.refl _ _, HFL⟩
    case round =>
      obtain ⟨k, o', hkL, rfl, rfl, HFK, HST, HRK⟩ := hrel
      by_cases hlt2 : k < Lk
      · have hlt3 : (k : Int) < (Lk : Int) := by omega
        obtain ⟨n, hkn⟩ : ∃ n, d.kids[k]? = some n := ⟨_, List.getElem?_eq_getElem (by have := unhide HLEN; omega)⟩
        have hW2 : ∀ j, j < M → wr.heap[j]? = W.heap[j]? := fun j hj => ((unhide HFK).bel.block j (Nat.lt_of_lt_of_le hj (unhide HM))).trans ((unhide HBW).block j (Nat.lt_of_lt_of_le hj (unhide HM))).symm
        obtain ⟨g', cap', e1, _, hat⟩ := (show ListAt M W (.slice kg d.kids.length kcap) d.kids by rw [unhide HLEN]; exact unhide HKD).keep hW2
        cases e1
        obtain ⟨a2, bn, rfl, ha2, hc2, hnd⟩ := hat k n hkn
        obtain ⟨kk, hkv⟩ := node_view hnd
        have x0 := hkv.c0
        have x1 := hkv.c1
        have HND := hide hnd
        have HWN := hide ((unhide HWD).kid (List.mem_of_getElem? hkn)).here.2
        have hdc := drop_cons hkn
        have HRK1 : Hid (R = freshRun o' (fldF (n :: d.kids.drop (k + 1)))) := by rw [← hdc]; exact HRK
        have z7 := hcell (unhide HFK).bs 0
        simp only [List.getElem?_toArray, List.getElem?_cons_zero] at z7
        clear hat hkv hnd hkn hdc HRK hW2
        by_cases k3 : n.kind = 3
        · rw [k3] at x0
          gi_wp2
          have HNA := hide ((unhide HFK).names.move (w' := wr.drew) rfl)
          have HOL := hide (show o'.length ≤ 100000000000000 by have := (unhide HFK).ol; have := unhide HPL; omega)
          have HWN1 := hide (unhide HWN).1
          have hmx : Tryz.prog.follows .mixedOrders = true := by kernel_rfl
          gi_cut [42] from 58 (fun v wc => v = .bool (hasName o' n.text) ∧ Hid (NamesAt wc (w.heap.size + 5) (if hasName o' n.text then o' else n.text :: o')) ∧ Hid (wr.grownBy wc (some (w.heap.size + 5))))
          case first =>
            gi_region_with_o (refine ⟨trivial, ?_⟩; gi_at_call 23; refine (CallsIn.inRound l (callsIn_wide.2 (add_nameG (unhide HNA) (unhide HWN1) (unhide HOL)))).mono ?_; rintro e w' ⟨rfl, hn3, hg3⟩)
            all_goals (have HN3 := hide hn3; have HG3 := hide (show wr.grownBy w' (some (w.heap.size + 5)) from ⟨hg3.os, hg3.tape, hg3.output, hg3.size, hg3.block⟩); clear hn3 hg3)
            all_goals gi_wp2
            all_goals gi_meet
            all_goals exact ⟨by simp, HN3, HG3⟩
          case rest =>
            obtain ⟨rfl, HN3, HG3⟩ := hcut
            have HM3 := hide (Stp.map (B := w.heap.size + 9) (unhide HFK).names (by omega) (unhide HG3))
            have HS3 := hide ((unhide HST).trans (unhide HM3))
            have HB3 := hide ((unhide HFK).bel.grown (unhide HG3) (unhide HFK).bel.size (fun k hk => by have := Option.some.inj hk; omega))
            have hkW : ∀ j, j < wr.heap.size → j ≠ w.heap.size + 5 → wc.heap[j]? = wr.heap[j]? := fun j h1 h2 => (unhide HG3).block j h1 (fun e => h2 (Option.some.inj e))
            have HND3 := hide (node_keep (unhide HND) (w' := wc) fun j hj => ((unhide HB3).block j (Nat.lt_of_lt_of_le hj (unhide HM))).trans ((unhide HFK).bel.block j (Nat.lt_of_lt_of_le hj (unhide HM))).symm)
            have hsz := (Array.getElem?_eq_some_iff.1 (unhide HFK).bs).1
            cases hh : hasName o' n.text with
            | true =>
              have HRN := hide (show R = none by rw [unhide HRK1, fldF_cons, if_pos k3, freshRun, hh]; rfl)
              clear hh
              have y2 := hcell ((hkW _ (by omega) (by omega)).trans (unhide HFK).bh) 0
              have y3 := hcell ((hkW _ (by omega) (by omega)).trans (unhide HFK).bc) 0
              have r1 := (hkW _ (by omega) (by omega)).trans (unhide HFK).r1
              have r2 := (hkW _ (by omega) (by omega)).trans (unhide HFK).r2
              simp only [List.getElem?_toArray, List.getElem?_cons_zero] at y2 y3
              have HHW := hide ((unhide H).keep (w' := wc) fun j hj => (unhide HB3).block j (Nat.lt_of_lt_of_le hj (unhide HM)))
              clear hkW
              gi_wp2
              refine ⟨trivial, (CallsIn.inRound l (callsIn_wide.2 (blamed_any (unhide HHW) (unhide HND3) xv (unhide HC)))).mono ?_⟩
              rintro e w4 ⟨⟨bb, ln, rfl, h4⟩, rfl⟩
              gi_wp2
              refine ⟨trivial, (CallsIn.inRound l (callsIn_wide.2 (wrong_any 9 h4))).mono ?_⟩
              rintro e w5 ⟨hb5, pp, rfl⟩
              have s1 := (hb5.block _ (Array.getElem?_eq_some_iff.1 r1).1).trans r1
              have s2 := (hb5.block _ (Array.getElem?_eq_some_iff.1 r2).1).trans r2
              have t1 := hcell s1 0
              have t2 := hcell s2 0
              have f1 := hfroz s1 0
              have f2 := hfroz s2 0
              simp only [List.getElem?_toArray, List.getElem?_cons_zero] at t1 t2
              have HS5 := hide ((unhide HS3).trans (Stp.below hb5))
              have HB5 := hide ((unhide HB3).trans (hb5.mono (unhide HB3).size))
              have HS1 := hide s1
              have HS2 := hide s2
              clear hb5 s1 s2 r1 r2 y2 y3 h4
              gi_wp2
              have b2 : ((w5.setCell ⟨w.heap.size + 2, 0, none⟩ (.slice none 0 0)).setCell ⟨w.heap.size + 3, 0, none⟩ (.iface 78 pp)).heap[w.heap.size + 2]? = some (.cells #[.slice none 0 0] 52 (0, 0)) := (hother _ (by omega)).trans (by rw [hset (unhide HS1)]; rfl)
              have s2' := (hother (b := w.heap.size + 2) (i := 0) (.slice none 0 0) (show w.heap.size + 3 ≠ w.heap.size + 2 by omega)).trans (unhide HS2)
              have b3 : ((w5.setCell ⟨w.heap.size + 2, 0, none⟩ (.slice none 0 0)).setCell ⟨w.heap.size + 3, 0, none⟩ (.iface 78 pp)).heap[w.heap.size + 3]? = some (.cells #[.iface 78 pp] 28 (0, 0)) := by
                rw [hset s2']
                rfl
              have hst := (unhide HS5).trans ((Stp.cells (B := w.heap.size + 9) (grown_setC w5 (w.heap.size + 2) 0 (.slice none 0 0)) fun k hk => by obtain rfl := Option.some.inj hk; exact ⟨_, _, _, unhide HS1, by decide⟩).trans (Stp.cells (grown_setC _ (w.heap.size + 3) 0 (.iface 78 pp)) fun k hk => by obtain rfl := Option.some.inj hk; exact ⟨_, _, _, s2', by decide⟩))
              refine ⟨by rw [unhide HZ]; exact hst.kf, rfl, (unhide HR).trans (unhide HRN), ((unhide HB5).setCell (p := ⟨w.heap.size + 2, 0, none⟩) (by show w.heap.size ≤ w.heap.size + 2; omega) _).setCell (p := ⟨w.heap.size + 3, 0, none⟩) (by show w.heap.size ≤ w.heap.size + 3; omega) _, _, _, _, b2, b3⟩
            | false =>
              have HRN := hide (show R = freshRun (n.text :: o') (fldF (d.kids.drop (k + 1))) by rw [unhide HRK1, fldF_cons, if_pos k3, freshRun, hh]; rfl)
              have hn4 : NamesAt wc (w.heap.size + 5) (n.text :: o') := by have := unhide HN3; rw [hh] at this; exact this
              have hF4 := (unhide HFK).add (unhide HG3) hn4 (by have := (unhide HFK).ol; rw [List.length_cons]; omega)
              obtain ⟨lv, nn, xs, q1, q2, q3⟩ := (unhide HFK).row
              obtain ⟨av, capv, rfl⟩ := owns_formK q2
              have q1' := (hkW _ (by omega) (by omega)).trans q1
              have q2' : wc.ownsRow (w.heap.size + 7) 9 1 (.slice av nn capv) nn xs := ⟨q2.1, q2.2.imp id fun ⟨g, cap, cur, e1, e2, e3, e4⟩ => ⟨g, cap, cur, e1, e2, (hkW g (Array.getElem?_eq_some_iff.1 e3).1 (by omega)).trans e3, e4⟩⟩
              have y4 := hcell q1' 0
              have f4 := hfroz q1' 0
              have y1 : wc.cell? ⟨bn, 1, none⟩ = some (.string n.text) := by
                obtain ⟨kk, hkv⟩ := node_view (unhide HND3)
                exact hkv.c1
              simp only [List.getElem?_toArray, List.getElem?_cons_zero] at y4
              have HF4 := hide hF4
              have HQ1 := hide q1'
              have HQ2 := hide q2'
              have HQ3 := hide q3
              clear hh hn4 hF4 q1 q2 q1' q2' q3 hkW x0 x1 HFK HNA HN3
              gi_wp2
              have HFA := hide ((unhide HF4).below (Below.drew ((Below.refl wc.heap.size wc).alloc (Nat.le_refl _) (.cells #[.string n.text] 9))))
              have hbA : Below wc.heap.size wc (wc.alloc (.cells #[.string n.text] 9)).drew := Below.drew ((Below.refl wc.heap.size wc).alloc (Nat.le_refl _) _)
              have HQA := hide (owns_below (unhide HQ2) hbA)
              have HLA := hide ((hbA.block _ (Array.getElem?_eq_some_iff.1 (unhide HQ1)).1).trans (unhide HQ1))
              have HSTA := hide ((unhide HS3).trans (Stp.below hbA))
              have HNN := hide (show nn + 1 ≤ 1000001000000 by have := unhide HQ3; have := unhide HPL; omega)
              have HSA := hide (show w.heap.size + 7 ≤ (wc.alloc (.cells #[.string n.text] 9)).drew.heap.size from (Array.getElem?_eq_some_iff.1 (unhide HFA).bs).1)
              obtain ⟨i0, hi0, hz0, hz1, hz2⟩ := info_parts infoStr
              have y4A : (wc.alloc (.cells #[.string n.text] 9)).cell? ⟨w.heap.size + 4, 0, none⟩ = some (.slice av nn capv) := (World.cell?_alloc_lt _ _ _ (cell_ltK y4)).trans y4
              have HONE := hide (show ∀ (j : Nat) (u : Value), [Value.string n.text][j]? = some u → (wc.alloc (.cells #[.string n.text] 9)).drew.cell? ((⟨wc.heap.size, 0, none⟩ : Addr).add j) = some u from fun j u hu => cell_one_new wc (.string n.text) 9 j u hu)
              clear hbA
              refine wpIn_region_any hmx ?_
              refine wpAnyIn_ready (rs := [0, 1]) (by kernel_rfl) (by simp) ?_
              refine AllReadyIn.cons (o := { dst := some 49, op := _, type := _, pos := _, after := _, guard := _ }) rfl (fun K1 hK1 => ?_) (AllReadyIn.cons (o := { dst := some 50, op := _, type := _, pos := _, after := _, guard := _ }) rfl (fun K1 hK1 => ?_) AllReadyIn.nil)
              · go_simp
                refine hK1 _ _ ?_
                clear hK1 K1
                refine wpAnyIn_ready (rs := [1]) (by kernel_rfl) (by simp) ?_
                refine AllReadyIn.cons (o := { dst := some 50, op := _, type := _, pos := _, after := _, guard := _ }) rfl (fun K1 hK1 => ?_) AllReadyIn.nil
                go_simp
                refine hK1 _ _ ?_
                clear hK1 K1
                refine wpAnyIn_ready (rs := [2]) (by kernel_rfl) (by simp) ?_
                refine AllReadyIn.cons (o := { dst := some 51, op := _, type := _, pos := _, after := _, guard := _ }) rfl (fun K1 hK1 => ?_) AllReadyIn.nil
                go_simp
                refine hK1 _ _ ?_
                clear hK1 K1
                refine wpAnyIn_ready (rs := [3]) (by kernel_rfl) (by simp) ?_
                refine AllReadyIn.cons (o := { dst := some 52, op := _, type := _, pos := _, after := _, guard := _ }) rfl (fun K1 hK1 => ?_) AllReadyIn.nil
                go_simp
                refine hK1 _ _ ?_
                clear hK1 K1
                refine wpAnyIn_ready (rs := [4]) (by kernel_rfl) (by simp) ?_
                refine AllReadyIn.cons (o := { dst := some 53, op := _, type := _, pos := _, after := _, guard := _ }) rfl (fun K1 hK1 => ?_) AllReadyIn.nil
                go_simp
                refine hK1 _ _ ?_
                clear hK1 K1
                refine wpAnyIn_ready (rs := [5]) (by kernel_rfl) (by simp) ?_
                refine AllReadyIn.cons (o := { dst := some 54, op := _, type := _, pos := _, after := _, guard := _ }) rfl (fun K1 hK1 => ?_) AllReadyIn.nil
                go_simp
                refine hK1 _ _ ?_
                clear hK1 K1
                refine wpAnyIn_ready (rs := [6]) (by kernel_rfl) (by simp) ?_
                refine AllReadyIn.cons (o := { dst := some 55, op := _, type := _, pos := _, after := _, guard := _ }) rfl (fun K1 hK1 => ?_) AllReadyIn.nil
                refine stepIn_append rfl _ _ 52 rfl (w.heap.size + 7) 9 i0 (.string ByteArray.empty) 1 16 Tryz.underlying52 hi0 hz0 hz1 hz2 rfl (by decide) _ nn xs rfl (unhide HQA) ⟨wc.heap.size, 0, none⟩ 1 1 [.string n.text] rfl rfl (unhide HONE) (by simp [Value.oneCell']) (by decide) (by have := unhide HNN; unfold maxLen; omega) (by have := unhide HNN; omega) (unhide HSA) ?_
                intro g6 cap6 w6 hown6 hg6
                obtain ⟨b4, hF6, hS6⟩ := (unhide HFA).app (unhide HLA) (unhide HQA) hown6 hg6 (by have := unhide HQ3; omega)
                have v4 := hcell b4 0
                have fz4 := hfroz b4 0
                simp only [List.getElem?_toArray, List.getElem?_cons_zero] at v4
                have HF6 := hide (hF6.mono (m' := pre.length * 1000000 + (k + 1)) (by omega))
                have HS6 := hide ((unhide HSTA).trans hS6)
                clear b4 hF6 hS6 hown6 hg6
                refine hK1 _ _ ?_
                clear hK1 K1
                simp only [Act.put, List.setIfInBounds_toArray, List.set_cons_zero, List.set_cons_succ]
                refine wpAnyIn_ready (rs := [7]) (by kernel_rfl) (by simp) ?_
                refine AllReadyIn.cons (o := { dst := none, op := _, type := _, pos := _, after := _, guard := _ }) rfl (fun K1 hK1 => ?_) AllReadyIn.nil
                go_simp
                refine hK1 _ _ ?_
                clear hK1 K1
                refine wpAnyIn_done (by kernel_rfl) ?_ _
                gi_wp2
                gi_roundg (Lk - (k + 1))
                case measure => omega
                case rel => exact ⟨k + 1, n.text :: o', by omega, rfl, by go_num, HF6, HS6, HRN⟩
              · go_simp
                refine hK1 _ _ ?_
                clear hK1 K1
                refine wpAnyIn_ready (rs := [0, 2]) (by kernel_rfl) (by simp) ?_
                refine AllReadyIn.cons (o := { dst := some 49, op := _, type := _, pos := _, after := _, guard := _ }) rfl (fun K1 hK1 => ?_) (AllReadyIn.cons (o := { dst := some 51, op := _, type := _, pos := _, after := _, guard := _ }) rfl (fun K1 hK1 => ?_) AllReadyIn.nil)
                · go_simp
                  refine hK1 _ _ ?_
                  clear hK1 K1
                  refine wpAnyIn_ready (rs := [2]) (by kernel_rfl) (by simp) ?_
                  refine AllReadyIn.cons (o := { dst := some 51, op := _, type := _, pos := _, after := _, guard := _ }) rfl (fun K1 hK1 => ?_) AllReadyIn.nil
                  go_simp
                  refine hK1 _ _ ?_
                  clear hK1 K1
                  refine wpAnyIn_ready (rs := [3]) (by kernel_rfl) (by simp) ?_
                  refine AllReadyIn.cons (o := { dst := some 52, op := _, type := _, pos := _, after := _, guard := _ }) rfl (fun K1 hK1 => ?_) AllReadyIn.nil
                  go_simp
                  refine hK1 _ _ ?_
                  clear hK1 K1
                  refine wpAnyIn_ready (rs := [4]) (by kernel_rfl) (by simp) ?_
                  refine AllReadyIn.cons (o := { dst := some 53, op := _, type := _, pos := _, after := _, guard := _ }) rfl (fun K1 hK1 => ?_) AllReadyIn.nil
                  go_simp
                  refine hK1 _ _ ?_
                  clear hK1 K1
                  refine wpAnyIn_ready (rs := [5]) (by kernel_rfl) (by simp) ?_
                  refine AllReadyIn.cons (o := { dst := some 54, op := _, type := _, pos := _, after := _, guard := _ }) rfl (fun K1 hK1 => ?_) AllReadyIn.nil
                  go_simp
                  refine hK1 _ _ ?_
                  clear hK1 K1
                  refine wpAnyIn_ready (rs := [6]) (by kernel_rfl) (by simp) ?_
                  refine AllReadyIn.cons (o := { dst := some 55, op := _, type := _, pos := _, after := _, guard := _ }) rfl (fun K1 hK1 => ?_) AllReadyIn.nil
                  refine stepIn_append rfl _ _ 52 rfl (w.heap.size + 7) 9 i0 (.string ByteArray.empty) 1 16 Tryz.underlying52 hi0 hz0 hz1 hz2 rfl (by decide) _ nn xs rfl (unhide HQA) ⟨wc.heap.size, 0, none⟩ 1 1 [.string n.text] rfl rfl (unhide HONE) (by simp [Value.oneCell']) (by decide) (by have := unhide HNN; unfold maxLen; omega) (by have := unhide HNN; omega) (unhide HSA) ?_
                  intro g6 cap6 w6 hown6 hg6
                  obtain ⟨b4, hF6, hS6⟩ := (unhide HFA).app (unhide HLA) (unhide HQA) hown6 hg6 (by have := unhide HQ3; omega)
                  have v4 := hcell b4 0
                  have fz4 := hfroz b4 0
                  simp only [List.getElem?_toArray, List.getElem?_cons_zero] at v4
                  have HF6 := hide (hF6.mono (m' := pre.length * 1000000 + (k + 1)) (by omega))
                  have HS6 := hide ((unhide HSTA).trans hS6)
                  clear b4 hF6 hS6 hown6 hg6
                  refine hK1 _ _ ?_
                  clear hK1 K1
                  simp only [Act.put, List.setIfInBounds_toArray, List.set_cons_zero, List.set_cons_succ]
                  refine wpAnyIn_ready (rs := [7]) (by kernel_rfl) (by simp) ?_
                  refine AllReadyIn.cons (o := { dst := none, op := _, type := _, pos := _, after := _, guard := _ }) rfl (fun K1 hK1 => ?_) AllReadyIn.nil
                  go_simp
                  refine hK1 _ _ ?_
                  clear hK1 K1
                  refine wpAnyIn_done (by kernel_rfl) ?_ _
                  gi_wp2
                  gi_roundg (Lk - (k + 1))
                  case measure => omega
                  case rel => exact ⟨k + 1, n.text :: o', by omega, rfl, by go_num, HF6, HS6, HRN⟩
                · go_simp
                  refine hK1 _ _ ?_
                  clear hK1 K1
                  refine wpAnyIn_ready (rs := [0, 3]) (by kernel_rfl) (by simp) ?_
                  refine AllReadyIn.cons (o := { dst := some 49, op := _, type := _, pos := _, after := _, guard := _ }) rfl (fun K1 hK1 => ?_) (AllReadyIn.cons (o := { dst := some 52, op := _, type := _, pos := _, after := _, guard := _ }) rfl (fun K1 hK1 => ?_) AllReadyIn.nil)
                  · go_simp
                    refine hK1 _ _ ?_
                    clear hK1 K1
                    refine wpAnyIn_ready (rs := [3]) (by kernel_rfl) (by simp) ?_
                    refine AllReadyIn.cons (o := { dst := some 52, op := _, type := _, pos := _, after := _, guard := _ }) rfl (fun K1 hK1 => ?_) AllReadyIn.nil
                    go_simp
                    refine hK1 _ _ ?_
                    clear hK1 K1
                    refine wpAnyIn_ready (rs := [4]) (by kernel_rfl) (by simp) ?_
                    refine AllReadyIn.cons (o := { dst := some 53, op := _, type := _, pos := _, after := _, guard := _ }) rfl (fun K1 hK1 => ?_) AllReadyIn.nil
                    go_simp
                    refine hK1 _ _ ?_
                    clear hK1 K1
                    refine wpAnyIn_ready (rs := [5]) (by kernel_rfl) (by simp) ?_
                    refine AllReadyIn.cons (o := { dst := some 54, op := _, type := _, pos := _, after := _, guard := _ }) rfl (fun K1 hK1 => ?_) AllReadyIn.nil
                    go_simp
                    refine hK1 _ _ ?_
                    clear hK1 K1
                    refine wpAnyIn_ready (rs := [6]) (by kernel_rfl) (by simp) ?_
                    refine AllReadyIn.cons (o := { dst := some 55, op := _, type := _, pos := _, after := _, guard := _ }) rfl (fun K1 hK1 => ?_) AllReadyIn.nil
                    refine stepIn_append rfl _ _ 52 rfl (w.heap.size + 7) 9 i0 (.string ByteArray.empty) 1 16 Tryz.underlying52 hi0 hz0 hz1 hz2 rfl (by decide) _ nn xs rfl (unhide HQA) ⟨wc.heap.size, 0, none⟩ 1 1 [.string n.text] rfl rfl (unhide HONE) (by simp [Value.oneCell']) (by decide) (by have := unhide HNN; unfold maxLen; omega) (by have := unhide HNN; omega) (unhide HSA) ?_
                    intro g6 cap6 w6 hown6 hg6
                    obtain ⟨b4, hF6, hS6⟩ := (unhide HFA).app (unhide HLA) (unhide HQA) hown6 hg6 (by have := unhide HQ3; omega)
                    have v4 := hcell b4 0
                    have fz4 := hfroz b4 0
                    simp only [List.getElem?_toArray, List.getElem?_cons_zero] at v4
                    have HF6 := hide (hF6.mono (m' := pre.length * 1000000 + (k + 1)) (by omega))
                    have HS6 := hide ((unhide HSTA).trans hS6)
                    clear b4 hF6 hS6 hown6 hg6
                    refine hK1 _ _ ?_
                    clear hK1 K1
                    simp only [Act.put, List.setIfInBounds_toArray, List.set_cons_zero, List.set_cons_succ]
                    refine wpAnyIn_ready (rs := [7]) (by kernel_rfl) (by simp) ?_
                    refine AllReadyIn.cons (o := { dst := none, op := _, type := _, pos := _, after := _, guard := _ }) rfl (fun K1 hK1 => ?_) AllReadyIn.nil
                    go_simp
                    refine hK1 _ _ ?_
                    clear hK1 K1
                    refine wpAnyIn_done (by kernel_rfl) ?_ _
                    gi_wp2
                    gi_roundg (Lk - (k + 1))
                    case measure => omega
                    case rel => exact ⟨k + 1, n.text :: o', by omega, rfl, by go_num, HF6, HS6, HRN⟩
                  · go_simp
                    refine hK1 _ _ ?_
                    clear hK1 K1
                    refine wpAnyIn_ready (rs := [0, 4]) (by kernel_rfl) (by simp) ?_
                    refine AllReadyIn.cons (o := { dst := some 49, op := _, type := _, pos := _, after := _, guard := _ }) rfl (fun K1 hK1 => ?_) (AllReadyIn.cons (o := { dst := some 53, op := _, type := _, pos := _, after := _, guard := _ }) rfl (fun K1 hK1 => ?_) AllReadyIn.nil)
                    · go_simp
                      refine hK1 _ _ ?_
                      clear hK1 K1
                      refine wpAnyIn_ready (rs := [4]) (by kernel_rfl) (by simp) ?_
                      refine AllReadyIn.cons (o := { dst := some 53, op := _, type := _, pos := _, after := _, guard := _ }) rfl (fun K1 hK1 => ?_) AllReadyIn.nil
                      go_simp
                      refine hK1 _ _ ?_
                      clear hK1 K1
                      refine wpAnyIn_ready (rs := [5]) (by kernel_rfl) (by simp) ?_
                      refine AllReadyIn.cons (o := { dst := some 54, op := _, type := _, pos := _, after := _, guard := _ }) rfl (fun K1 hK1 => ?_) AllReadyIn.nil
                      go_simp
                      refine hK1 _ _ ?_
                      clear hK1 K1
                      refine wpAnyIn_ready (rs := [6]) (by kernel_rfl) (by simp) ?_
                      refine AllReadyIn.cons (o := { dst := some 55, op := _, type := _, pos := _, after := _, guard := _ }) rfl (fun K1 hK1 => ?_) AllReadyIn.nil
                      refine stepIn_append rfl _ _ 52 rfl (w.heap.size + 7) 9 i0 (.string ByteArray.empty) 1 16 Tryz.underlying52 hi0 hz0 hz1 hz2 rfl (by decide) _ nn xs rfl (unhide HQA) ⟨wc.heap.size, 0, none⟩ 1 1 [.string n.text] rfl rfl (unhide HONE) (by simp [Value.oneCell']) (by decide) (by have := unhide HNN; unfold maxLen; omega) (by have := unhide HNN; omega) (unhide HSA) ?_
                      intro g6 cap6 w6 hown6 hg6
                      obtain ⟨b4, hF6, hS6⟩ := (unhide HFA).app (unhide HLA) (unhide HQA) hown6 hg6 (by have := unhide HQ3; omega)
                      have v4 := hcell b4 0
                      have fz4 := hfroz b4 0
                      simp only [List.getElem?_toArray, List.getElem?_cons_zero] at v4
                      have HF6 := hide (hF6.mono (m' := pre.length * 1000000 + (k + 1)) (by omega))
                      have HS6 := hide ((unhide HSTA).trans hS6)
                      clear b4 hF6 hS6 hown6 hg6
                      refine hK1 _ _ ?_
                      clear hK1 K1
                      simp only [Act.put, List.setIfInBounds_toArray, List.set_cons_zero, List.set_cons_succ]
                      refine wpAnyIn_ready (rs := [7]) (by kernel_rfl) (by simp) ?_
                      refine AllReadyIn.cons (o := { dst := none, op := _, type := _, pos := _, after := _, guard := _ }) rfl (fun K1 hK1 => ?_) AllReadyIn.nil
                      go_simp
                      refine hK1 _ _ ?_
                      clear hK1 K1
                      refine wpAnyIn_done (by kernel_rfl) ?_ _
                      gi_wp2
                      gi_roundg (Lk - (k + 1))
                      case measure => omega
                      case rel => exact ⟨k + 1, n.text :: o', by omega, rfl, by go_num, HF6, HS6, HRN⟩
                    · go_simp
                      refine hK1 _ _ ?_
                      clear hK1 K1
                      refine wpAnyIn_ready (rs := [0, 5]) (by kernel_rfl) (by simp) ?_
                      refine AllReadyIn.cons (o := { dst := some 49, op := _, type := _, pos := _, after := _, guard := _ }) rfl (fun K1 hK1 => ?_) (AllReadyIn.cons (o := { dst := some 54, op := _, type := _, pos := _, after := _, guard := _ }) rfl (fun K1 hK1 => ?_) AllReadyIn.nil)
                      · go_simp
                        refine hK1 _ _ ?_
                        clear hK1 K1
                        refine wpAnyIn_ready (rs := [5]) (by kernel_rfl) (by simp) ?_
                        refine AllReadyIn.cons (o := { dst := some 54, op := _, type := _, pos := _, after := _, guard := _ }) rfl (fun K1 hK1 => ?_) AllReadyIn.nil
                        go_simp
                        refine hK1 _ _ ?_
                        clear hK1 K1
                        refine wpAnyIn_ready (rs := [6]) (by kernel_rfl) (by simp) ?_
                        refine AllReadyIn.cons (o := { dst := some 55, op := _, type := _, pos := _, after := _, guard := _ }) rfl (fun K1 hK1 => ?_) AllReadyIn.nil
                        refine stepIn_append rfl _ _ 52 rfl (w.heap.size + 7) 9 i0 (.string ByteArray.empty) 1 16 Tryz.underlying52 hi0 hz0 hz1 hz2 rfl (by decide) _ nn xs rfl (unhide HQA) ⟨wc.heap.size, 0, none⟩ 1 1 [.string n.text] rfl rfl (unhide HONE) (by simp [Value.oneCell']) (by decide) (by have := unhide HNN; unfold maxLen; omega) (by have := unhide HNN; omega) (unhide HSA) ?_
                        intro g6 cap6 w6 hown6 hg6
                        obtain ⟨b4, hF6, hS6⟩ := (unhide HFA).app (unhide HLA) (unhide HQA) hown6 hg6 (by have := unhide HQ3; omega)
                        have v4 := hcell b4 0
                        have fz4 := hfroz b4 0
                        simp only [List.getElem?_toArray, List.getElem?_cons_zero] at v4
                        have HF6 := hide (hF6.mono (m' := pre.length * 1000000 + (k + 1)) (by omega))
                        have HS6 := hide ((unhide HSTA).trans hS6)
                        clear b4 hF6 hS6 hown6 hg6
                        refine hK1 _ _ ?_
                        clear hK1 K1
                        simp only [Act.put, List.setIfInBounds_toArray, List.set_cons_zero, List.set_cons_succ]
                        refine wpAnyIn_ready (rs := [7]) (by kernel_rfl) (by simp) ?_
                        refine AllReadyIn.cons (o := { dst := none, op := _, type := _, pos := _, after := _, guard := _ }) rfl (fun K1 hK1 => ?_) AllReadyIn.nil
                        go_simp
                        refine hK1 _ _ ?_
                        clear hK1 K1
                        refine wpAnyIn_done (by kernel_rfl) ?_ _
                        gi_wp2
                        gi_roundg (Lk - (k + 1))
                        case measure => omega
                        case rel => exact ⟨k + 1, n.text :: o', by omega, rfl, by go_num, HF6, HS6, HRN⟩
                      · go_simp
                        refine hK1 _ _ ?_
                        clear hK1 K1
                        refine wpAnyIn_ready (rs := [0]) (by kernel_rfl) (by simp) ?_
                        refine AllReadyIn.cons (o := { dst := some 49, op := _, type := _, pos := _, after := _, guard := _ }) rfl (fun K1 hK1 => ?_) AllReadyIn.nil
                        go_simp
                        refine hK1 _ _ ?_
                        clear hK1 K1
                        refine wpAnyIn_ready (rs := [6]) (by kernel_rfl) (by simp) ?_
                        refine AllReadyIn.cons (o := { dst := some 55, op := _, type := _, pos := _, after := _, guard := _ }) rfl (fun K1 hK1 => ?_) AllReadyIn.nil
                        refine stepIn_append rfl _ _ 52 rfl (w.heap.size + 7) 9 i0 (.string ByteArray.empty) 1 16 Tryz.underlying52 hi0 hz0 hz1 hz2 rfl (by decide) _ nn xs rfl (unhide HQA) ⟨wc.heap.size, 0, none⟩ 1 1 [.string n.text] rfl rfl (unhide HONE) (by simp [Value.oneCell']) (by decide) (by have := unhide HNN; unfold maxLen; omega) (by have := unhide HNN; omega) (unhide HSA) ?_
                        intro g6 cap6 w6 hown6 hg6
                        obtain ⟨b4, hF6, hS6⟩ := (unhide HFA).app (unhide HLA) (unhide HQA) hown6 hg6 (by have := unhide HQ3; omega)
                        have v4 := hcell b4 0
                        have fz4 := hfroz b4 0
                        simp only [List.getElem?_toArray, List.getElem?_cons_zero] at v4
                        have HF6 := hide (hF6.mono (m' := pre.length * 1000000 + (k + 1)) (by omega))
                        have HS6 := hide ((unhide HSTA).trans hS6)
                        clear b4 hF6 hS6 hown6 hg6
                        refine hK1 _ _ ?_
                        clear hK1 K1
                        simp only [Act.put, List.setIfInBounds_toArray, List.set_cons_zero, List.set_cons_succ]
                        refine wpAnyIn_ready (rs := [7]) (by kernel_rfl) (by simp) ?_
                        refine AllReadyIn.cons (o := { dst := none, op := _, type := _, pos := _, after := _, guard := _ }) rfl (fun K1 hK1 => ?_) AllReadyIn.nil
                        go_simp
                        refine hK1 _ _ ?_
                        clear hK1 K1
                        refine wpAnyIn_done (by kernel_rfl) ?_ _
                        gi_wp2
                        gi_roundg (Lk - (k + 1))
                        case measure => omega
                        case rel => exact ⟨k + 1, n.text :: o', by omega, rfl, by go_num, HF6, HS6, HRN⟩
        · have dd3 : ((n.kind : Int) == 3) = false := by simpa using fun q : (n.kind : Int) = 3 => k3 (by omega)
          have ff3 : ¬ ((n.kind : Int) = 3) := fun q => k3 (by omega)
          have HRN := hide (show R = freshRun o' (fldF (d.kids.drop (k + 1))) by rw [unhide HRK1, fldF_cons, if_neg k3])
          have HFM := hide ((unhide HFK).mono (m' := pre.length * 1000000 + (k + 1)) (by omega))
          clear HRK1 k3
          gi_wp2
          gi_roundg (Lk - (k + 1))
          case measure => omega
          case rel => exact ⟨k + 1, o', by omega, rfl, by go_num, HFM, HST, HRN⟩
      · obtain rfl : k = Lk := by omega
        have hlt3 : decide ((k : Int) < (k : Int)) = false := by simp
        have hdn : d.kids.drop k = [] := List.drop_eq_nil_of_le (by have := unhide HLEN; omega)
        have HRN := hide (show R = some o' by rw [unhide HRK, hdn]; rfl)
        clear hdn
        gi_wp2
        refine ⟨by rw [unhide HZ]; exact (unhide HST).kf, (unhide HST).ki, o', (unhide HR).trans (unhide HRN), (unhide HFK).mono ?_⟩
        rw [List.length_append, List.length_singleton]
        omega
  case done =>
    rintro D ys W hD hS ⟨o, ho, hF⟩ hK
    obtain ⟨lv, n, xs, q1, q2, q3⟩ := hF.row
    obtain ⟨a, cap, rfl⟩ := owns_formK q2
    have e4 := hcell q1 0
    have e2 := hcell hF.r1 0
    have e3 := hcell hF.r2 0
    have f2 := hfroz hF.r1 0
    have f3 := hfroz hF.r2 0
    simp only [List.getElem?_toArray, List.getElem?_cons_zero] at e2 e3 e4
    have HF := hide hF
    have HO := hide ho
    have HS := hide hS
    have HK := hide hK
    have HD := hide hD
    clear hF ho hS hD q1 q2 q3 hseq hK
    gi_wp2
    have b2 : ((W.setCell ⟨w.heap.size + 2, 0, none⟩ (.slice a n cap)).setCell ⟨w.heap.size + 3, 0, none⟩ .nilIface).heap[w.heap.size + 2]? = some (.cells #[.slice a n cap] 52 (0, 0)) := (hother _ (by omega)).trans (by rw [hset (unhide HF).r1]; rfl)
    have b3 : ((W.setCell ⟨w.heap.size + 2, 0, none⟩ (.slice a n cap)).setCell ⟨w.heap.size + 3, 0, none⟩ .nilIface).heap[w.heap.size + 3]? = some (.cells #[.nilIface] 28 (0, 0)) := by
      rw [hset ((hother _ (by omega)).trans (unhide HF).r2)]
      rfl
    have hK1 := ((KeepsOthers.setCell W ⟨w.heap.size + 2, 0, none⟩ (.slice a n cap)).trans (KeepsOthers.setCell _ ⟨w.heap.size + 3, 0, none⟩ .nilIface)).same D _ (unhide HK) rfl
    have hB := ((unhide HF).bel.setCell (p := ⟨w.heap.size + 2, 0, none⟩) (by show w.heap.size ≤ w.heap.size + 2; omega) (.slice a n cap)).setCell (p := ⟨w.heap.size + 3, 0, none⟩) (by show w.heap.size ≤ w.heap.size + 3; omega) .nilIface
    have hD := unhide HD
    rw [hz] at hD
    generalize (W.setCell ⟨w.heap.size + 2, 0, none⟩ (.slice a n cap)).setCell ⟨w.heap.size + 3, 0, none⟩ .nilIface = X at *
    refine ⟨by simp, .inl ⟨_, _, rfl, run_takeDeferred hK1, ?_⟩⟩
    have c2 := hcell ((World.putObj_heap_other (show w.heap.size + 2 ≠ D by omega)).trans b2 : (X.putObj D (.deferred none)).heap[w.heap.size + 2]? = _) 0
    have c3 := hcell ((World.putObj_heap_other (show w.heap.size + 3 ≠ D by omega)).trans b3 : (X.putObj D (.deferred none)).heap[w.heap.size + 3]? = _) 0
    simp only [List.getElem?_toArray, List.getElem?_cons_zero] at c2 c3
    refine ⟨.tuple #[.slice a n cap, .nilIface], ?_, hB.trans (belowK_b (w := w) (Nat.le_refl _) X D _ _ (by omega) hK1 rfl rfl), Or.inl ⟨?_, _, rfl, _, _, _, rfl⟩⟩
    · simp [results, Tryz.f26, go_sem, c2, c3]
    · refine (freshRun_nodup _).1 ?_
      rw [fieldsAll_flds, ← unhide HS, unhide HO]
      rfl
  case stop =>
    rintro D c pre W hD hS ⟨rfl, h2, h3, v, tt, pp, h4, h5⟩ hK
    rw [hz] at hD
    have HS := hide hS
    have H2 := hide h2
    clear hseq hS h2
    gi_wp2
    refine ⟨by simp, .inl ⟨_, _, rfl, run_takeDeferred hK, ?_⟩⟩
    have c2 := hcell ((World.putObj_heap_other (show w.heap.size + 2 ≠ D by omega)).trans h4 : (W.putObj D (.deferred none)).heap[w.heap.size + 2]? = _) 0
    have c3 := hcell ((World.putObj_heap_other (show w.heap.size + 3 ≠ D by omega)).trans h5 : (W.putObj D (.deferred none)).heap[w.heap.size + 3]? = _) 0
    simp only [List.getElem?_toArray, List.getElem?_cons_zero] at c2 c3
    refine ⟨.tuple #[v, .iface tt pp], ?_, h3.trans (belowK_b (w := w) (Nat.le_refl _) W D _ _ (by omega) hK rfl rfl), Or.inr ⟨fun q => ?_, _, _, _, rfl⟩⟩
    · simp [results, Tryz.f26, go_sem, c2, c3]
    · have := (freshRun_nodup _).2 q
      obtain ⟨r, hr⟩ := unhide HS
      rw [fieldsAll_flds, ← hr, flds_app, freshRun_app, unhide H2] at this
      cases this
end Go.Proofs.YtjcoobkpmpjpbaaGreatDoor
