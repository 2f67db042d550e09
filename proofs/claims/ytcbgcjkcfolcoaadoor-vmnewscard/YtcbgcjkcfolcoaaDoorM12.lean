/-
  vm.New.
  The document's answer: small questions.
  The document's table of instructions (one).
  The document's table of instructions (two).
-/
import Derived.Test.YtcbgcjkcfolcoaaDoorM11
namespace Go.Proofs.YtcbgcjkcfolcoaaDoor
open Go.RowKit

/-- What may not be, besides the image. -/
def newBad (nu old : Int) (inputs : Nat) (coll : List Int) : Bool := roomBad nu old || (decide (100 < inputs) || coll.any collBad)
def VNewPost (m : PM) (nu old : Int) (inputs : Nat) (coll : List Int) (w : World) (e : Ending) (w' : World) : Prop :=
  Below w.heap.size w w' ∧ ∃ (v1 v2 : Value) (n p : Int) (n' p' : Int), e = .returned (.tuple #[v1, v2]) ∧ Verdict m n p ∧ ErrAt w' v2 n' p' ∧
    ((n ≠ 0 ∧ n' = n ∧ p' = p ∧ v1 = .pointer none) ∨ (n = 0 ∧ newBad nu old inputs coll = true ∧ n' = 2 ∧ p' = -1 ∧ v1 = .pointer none) ∨ (n = 0 ∧ newBad nu old inputs coll = false ∧ n' = 0 ∧ p' = p ∧ ∃ b, v1 = .pointer (some ⟨b, 0, none⟩)))

theorem slots_ok {m : PM} {p : Int} (h : Verdict m 0 p) : ∃ f, m.funcs[0]? = some f ∧ 0 ≤ f.slots ∧ f.slots ≤ 100000 := by
  rcases h with ⟨_, e, _⟩ | ⟨_, _, e, _⟩ | ⟨hl, _, ⟨_, _, _, _, e, _⟩ | ⟨_, _, hf⟩⟩
  · cases e
  · cases e
  · exact absurd rfl e
  · have h0 : 0 < m.funcs.length := by
      unfold limitOk inB at hl
      simp at hl
      omega
    refine ⟨_, List.getElem?_eq_getElem h0, ?_⟩
    rcases hf 0 _ (List.getElem?_eq_getElem h0) with ⟨_, e⟩ | ⟨_, _, e⟩ | ⟨_, _, _, e⟩ | ⟨hs, _⟩
    · cases e
    · cases e
    · cases e
    · simp only [sizeOk, Bool.and_eq_true] at hs
      have h1 := inB_true hs.1.2
      have h2 := inB_true hs.2
      exact ⟨by omega, by omega⟩

set_option maxRecDepth 100000 in
set_option maxHeartbeats 8000000 in
theorem vmNew_any {w : World} {b : Nat} {m : PM} {vf vc vk : Value} (h : ImgAt w b m vf vc vk) (hin : InM m) (nu old : Int) {vq vi : Value} {coll ins : List Int} (hq : IntsAt w vq coll) (hi : IntsAt w vi ins) :
    Calls Tryd.prog 5 #[.pointer (some ⟨b, 0, none⟩), .agg #[.int .i64 nu, .int .i64 old, vq], vi] w fun e w' => VNewPost m nu old ins.length coll w e w' := by
  have HQ0 := hide hq
  have HI0 := hide hi
  obtain ⟨gq, cq, rfl, _, _⟩ := hq
  obtain ⟨gi, ci, rfl, _, _⟩ := hi
  have HIN := hide hin
  obtain ⟨wm, hwm⟩ : ∃ wm, w.alloc (.cells #[.int .i64 nu, .int .i64 old, .slice gq coll.length cq] 37) = wm := ⟨_, rfl⟩
  have hB : Below w.heap.size w wm := by rw [← hwm]; exact (Below.refl _ _).alloc (Nat.le_refl _) _
  have hkm : wm.heap[w.heap.size]? = some (.cells #[.int .i64 nu, .int .i64 old, .slice gq coll.length cq] 37 (0, 0)) := by rw [← hwm]; exact hnew _ _
  have HB := hide hB
  have HM := hide (h.keep hB)
  have HQ := hide ((unhide HQ0).keep hB)
  have HI := hide ((unhide HI0).keep hB)
  have HK := hide hkm
  clear h hin hB hkm HQ0 HI0
  go_enter Tryd.func5, Tryd.ntmps5
  go_wp2_with fail
  clear hwm
  refine (checkV_any (unhide HM) (unhide HIN)).mono ?_
  rintro e w1 ⟨hb1, v, n, p, rfl, he, hz, hv⟩
  have HB1 := hide ((unhide HB).trans (hb1.mono (unhide HB).size))
  have HM1 := hide ((unhide HM).keep hb1)
  have HQ1 := hide ((unhide HQ).keep hb1)
  have HI1 := hide ((unhide HI).keep hb1)
  have HK1 := hide ((hb1.block _ (hlt (unhide HK))).trans (unhide HK))
  have HV := hide hv
  have HE := hide he
  clear hb1 hv
  by_cases h0 : n = 0
  · subst h0
    obtain rfl := hz rfl
    have HP : Hid (p = -1) := by
      rcases he with ⟨_, _, e⟩ | ⟨e, _⟩ | ⟨_, e, _⟩
      · exact e
      · cases e
      · cases e
    have c0 := hcell (unhide HK1) 0
    have c1 := hcell (unhide HK1) 1
    clear he hz HE
    go_wp2_with fail
    refine (heapNew_any nu old _).mono ?_
    rintro e w2 ⟨hb2, hr⟩
    have HB2 := hide ((unhide HB1).trans (hb2.mono (unhide HB1).size))
    have HM2 := hide ((unhide HM1).keep hb2)
    have HQ2 := hide ((unhide HQ1).keep hb2)
    have HI2 := hide ((unhide HI1).keep hb2)
    have HK2 := hide ((hb2.block _ (hlt (unhide HK1))).trans (unhide HK1))
    clear hb2 c0 c1
    rcases hr with ⟨hrb, rfl⟩ | ⟨hrb, hh, mb, rfl, hr⟩
    · have HRB := hide hrb
      clear hrb
      go_wp2_with fail
      go_ret2
      exact ⟨unhide HB2, _, _, 0, p, 2, -1, rfl, unhide HV, Or.inr (Or.inl ⟨rfl, rfl⟩), Or.inr (Or.inl ⟨rfl, by unfold newBad; rw [unhide HRB]; rfl, rfl, rfl, rfl⟩)⟩
    have HRB := hide hrb
    clear hr hrb
    by_cases hl : (100 : Int) < (ins.length : Int)
    · have HL := hide hl
      go_wp2_with fail
      go_ret2
      exact ⟨unhide HB2, _, _, 0, p, 2, -1, rfl, unhide HV, Or.inr (Or.inl ⟨rfl, rfl⟩), Or.inr (Or.inl ⟨rfl, by unfold newBad; rw [unhide HRB, decide_eq_true (show 100 < ins.length by have := unhide HL; omega)]; rfl, rfl, rfl, rfl⟩)⟩
    have HL := hide hl
    have c2 := hcell (unhide HK2) 2
    go_wp2_with fail
    refine (contains_any (unhide HQ2)).mono ?_
    rintro e w3 ⟨rfl, rfl⟩
    cases hc : coll.any collBad with
    | true =>
      have HC := hide hc
      clear hc
      go_wp2_with fail
      go_ret2
      exact ⟨unhide HB2, _, _, 0, p, 2, -1, rfl, unhide HV, Or.inr (Or.inl ⟨rfl, rfl⟩), Or.inr (Or.inl ⟨rfl, by unfold newBad; rw [unhide HC]; simp, rfl, rfl, rfl⟩)⟩
    | false =>
      have HC := hide hc
      clear hc c2
      go_wp2_with fail
      refine (copyImage_any (unhide HM2)).mono ?_
      rintro e w4 ⟨hb4, cb, k1, k2, k3, rfl, _, hm4⟩
      have HB4 := hide ((unhide HB2).trans (hb4.mono (unhide HB2).size))
      have HM4 := hide hm4
      have HQ4 := hide ((unhide HQ2).keep hb4)
      have HI4 := hide ((unhide HI2).keep hb4)
      have c4 := hcell ((hb4.block _ (hlt (unhide HK2))).trans (unhide HK2)) 2
      clear hb4 hm4
      go_wp2_with fail
      refine (cloneInt_any (unhide HQ4) (row1_int _)).mono ?_
      rintro e w5 ⟨hb5, g5, p5, _, rfl, _, _⟩
      have HB5 := hide ((unhide HB4).trans (hb5.mono (unhide HB4).size))
      have HM5 := hide ((unhide HM4).keep hb5)
      have HI5 := hide ((unhide HI4).keep hb5)
      clear hb5 c4
      go_wp2_with fail
      refine (cloneInt_any (unhide HI5) (row1_int _)).mono ?_
      rintro e w6 ⟨hb6, g6, p6, _, rfl, _, _⟩
      have HB6 := hide ((unhide HB5).trans (hb6.mono (unhide HB5).size))
      have HM6 := hide ((unhide HM5).keep hb6)
      clear hb6
      obtain ⟨f, hf, hs⟩ := slots_ok (unhide HV)
      have HF := hide hf
      have HS := hide hs
      clear hf hs
      go_wp2_with fail
      refine (newFrame_any (k := 0) (unhide HM6) (unhide HF) (unhide HS)).mono ?_
      rintro e w7 ⟨hb7, g7, rfl⟩
      have HB7 := hide ((unhide HB6).trans (hb7.mono (unhide HB6).size))
      clear hb7
      go_wp2_with fail
      go_ret2
      refine ⟨?_, _, _, 0, p, 0, p, rfl, unhide HV, Or.inl ⟨rfl, rfl, unhide HP⟩, Or.inr (Or.inr ⟨rfl, ?_, rfl, rfl, _, rfl⟩)⟩
      · exact ((unhide HB7).alloc (unhide HB7).size _).alloc (by have := (unhide HB7).size; simp; omega) _
      · unfold newBad
        rw [unhide HRB, unhide HC, decide_eq_false (show ¬ 100 < ins.length by have := unhide HL; omega)]
        rfl
  · have hi : (∃ t u, v = .iface t u) := by
      rcases he with ⟨_, e, _⟩ | ⟨e, _⟩ | ⟨_, e, _⟩
      · exact absurd e h0
      · exact ⟨_, _, e⟩
      · exact ⟨_, _, e⟩
    obtain ⟨t, u, rfl⟩ := hi
    have H0 := hide h0
    clear he hz h0
    go_wp2_with fail
    go_ret2
    exact ⟨unhide HB1, _, _, n, p, n, p, rfl, unhide HV, unhide HE, Or.inl ⟨unhide H0, rfl, rfl, rfl⟩⟩
end Go.Proofs.YtcbgcjkcfolcoaaDoor

namespace Go.Proofs.YtcbgcjkcfolcoaaDoor
open Go.RowKit

set_option maxHeartbeats 1000000 in
theorem within_is {n l t : Int} {c : Bool} (h : inB n l t = c) (w : World) : Calls Tryd.prog 17 #[.int .i64 n, .int .i64 l, .int .i64 t] w fun e w' => e = .returned (.bool c) ∧ w = w' := by
  have HD : Hid (inB n l t = decide (l ≤ n ∧ n ≤ t)) := rfl
  have HC := hide h
  clear h
  by_cases h1 : l ≤ n
  · have d1 : decide (l ≤ n) = true := by simpa using h1
    go_enter Tryd.func17, Tryd.ntmps17
    go_wp2_with fail
    go_ret
    exact ⟨rb (by rw [← unhide HC, unhide HD]; simp [h1]), rfl⟩
  · have d1 : decide (l ≤ n) = false := by simpa using h1
    go_enter Tryd.func17, Tryd.ntmps17
    go_wp2_with fail
    go_ret
    exact ⟨rb (by rw [← unhide HC, unhide HD]; exact (decide_eq_false (by omega)).symm), rfl⟩

set_option maxHeartbeats 1000000 in
theorem bare_any (n : Int) (w : World) : Calls Tryd.prog 8 #[.int .i64 n] w fun e w' => e = .returned (.agg #[.int .i64 n, .int .i64 (-1)]) ∧ Below w.heap.size w w' := by
  go_enter Tryd.func8, Tryd.ntmps8
  go_wp2_with fail
  exact bodyPost_ret (v := .agg #[.int .i64 n, .int .i64 (-1)]) (by simp [results, Tryd.results8, go_sem]) rfl ⟨rfl, (Below.refl _ _).alloc (Nat.le_refl _) _⟩

set_option maxHeartbeats 1000000 in
theorem rtext_is {w : World} {b q : Nat} {m : PM} {vf vc vk : Value} (h : ImgAt w b m vf vc vk) (hq : w.cell? ⟨q, 0, none⟩ = some (.pointer (some ⟨b, 0, none⟩))) (hK : m.consts.length ≤ 1100) {n : Int} {c : Bool} (hc : isText m n = c) :
    Calls Tryd.prog 38 #[.int .i64 n, .pointer (some ⟨q, 0, none⟩)] w fun e w' => e = .returned (.bool c) ∧ w = w' := by
  have c1 := h.c1
  obtain ⟨g, cap, rfl, hN, hr⟩ := h.img.consts
  have HD : Hid (c = (belowB n m.consts.length && (constAt m n).text)) := hc.symm
  clear h hc
  cases hb : belowB n m.consts.length with
  | false =>
    have hb' := (inB_below n m.consts.length).trans hb
    go_enter Tryd.func38, Tryd.ntmps38
    go_wp2_with (go_at_call 17; refine (within_is hb' _).mono ?_; rintro e w' ⟨rfl, rfl⟩)
    go_ret
    exact ⟨rb (by rw [unhide HD, hb]; rfl), rfl⟩
  | true =>
    have hb' := (inB_below n m.consts.length).trans hb
    obtain ⟨h1, h2⟩ := belowB_true hb
    obtain ⟨k, rfl⟩ := Int.eq_ofNat_of_zero_le h1
    obtain ⟨gb, go, rfl, hcc⟩ := hr k (by omega)
    have hx : m.consts[k]? = some (m.consts[k]'(by omega)) := List.getElem?_eq_getElem _
    have hc0 : w.cell? ⟨gb, go + k * 3, none⟩ = some (.bool (m.consts[k]'(by omega)).text) := by
      have := hcc 0 (by omega)
      rw [constRow, hx] at this
      exact this
    have HC : Hid ((constAt m k).text = (m.consts[k]'(by omega)).text) := by
      show (constAt m k).text = _
      simp [constAt, List.getD, hx]
    clear hcc hr hx
    generalize (m.consts[k]'(by omega)).text = t at *
    go_enter Tryd.func38, Tryd.ntmps38
    go_wp2_with (go_at_call 17; refine (within_is hb' _).mono ?_; rintro e w' ⟨rfl, rfl⟩)
    go_ret
    exact ⟨rb (by rw [unhide HD, hb, unhide HC]; rfl), rfl⟩

theorem call_in (m : PM) (n : Int) : inB n 1 (m.funcs.length - 1) = callB m n := by
  unfold callB inB belowB
  by_cases h : n = 0
  · subst h; simp
  · have : (n != 0) = true := by rw [bne_iff_ne]; exact h
    rw [this, Bool.true_and]
    apply decide_eq_decide.2
    omega
end Go.Proofs.YtcbgcjkcfolcoaaDoor

namespace Go.Proofs.YtcbgcjkcfolcoaaDoor
open Go.RowKit

/-- What 'effect' answers. -/
def EffPost (m : PM) (f : PF) (i : PI) (w : World) (e : Ending) (w' : World) : Prop :=
  ∃ t l to' th on, e = .returned (.tuple #[.bool (nameOk m f.slots f.code.length i), .int .i64 t, .int .i64 l, .int .i64 to', .int .i64 th, .bool on]) ∧ (nameOk m f.slots f.code.length i = true → t = takes i ∧ l = leaves i ∧ to' = goesTo i ∧ th = there i ∧ on = goesOn i) ∧ Below w.heap.size w w'
theorem EffPost.mk {m : PM} {f : PF} {i : PI} {w w' : World} {c : Bool} {t l to' th : Int} {on : Bool} (hc : c = nameOk m f.slots f.code.length i) (ht : c = true → t = takes i) (hr : l = leaves i ∧ to' = goesTo i ∧ th = there i ∧ on = goesOn i) (h : Below w.heap.size w w') :
    EffPost m f i w (.returned (.tuple #[.bool c, .int .i64 t, .int .i64 l, .int .i64 to', .int .i64 th, .bool on])) w' :=
  ⟨t, l, to', th, on, by rw [hc], fun hk => ⟨ht (hc.trans hk), hr.1, hr.2.1, hr.2.2.1, hr.2.2.2⟩, h⟩
theorem EffPost.no {m : PM} {f : PF} {i : PI} {w w' : World} {t l to' th : Int} {on : Bool} (hc : nameOk m f.slots f.code.length i = false) (h : Below w.heap.size w w') :
    EffPost m f i w (.returned (.tuple #[.bool false, .int .i64 t, .int .i64 l, .int .i64 to', .int .i64 th, .bool on])) w' :=
  ⟨t, l, to', th, on, by rw [hc], fun hk => (by rw [hc] at hk; cases hk), h⟩
/-- What is asked of the memory when it is asked. -/
structure EffAsk (w : World) (b : Nat) (m : PM) (vf vc vk : Value) (f : PF) (g3 g4 g5 : Option Addr) (p3 p4 p5 : Nat) : Prop where
  img : ImgAt w b m vf vc vk
  h1 : m.funcs.length ≤ 250
  h2 : m.consts.length ≤ 1000
  h3 : m.classes.length ≤ 250
  h4 : f.code.length ≤ 5000
  h5 : 0 ≤ f.slots
  h6 : f.slots ≤ 200
theorem below3 {w : World} (a b c : Obj) (n : Nat) : Below w.heap.size w ((((w.alloc a).alloc b).alloc c).drewN n) :=
  Bl.drewN ((((Below.refl _ _).alloc (Nat.le_refl _) a).alloc (by simp) b).alloc (by simp; omega) c) n
theorem cell_al3 {w : World} {a : Addr} {v : Value} (h : w.cell? a = some v) : ∀ o p q, (((w.alloc o).alloc p).alloc q).cell? a = some v := fun o p q => cell_al (cell_al (cell_al h o) p) q
theorem within_bl {n m : Int} {c : Bool} (h : belowB n m = c) (w : World) : Calls Tryd.prog 17 #[.int .i64 n, .int .i64 0, .int .i64 (m - 1)] w fun e w' => e = .returned (.bool c) ∧ w = w' := within_is ((inB_below n m).trans h) w
theorem within_cl {m : PM} {n : Int} {c : Bool} (h : callB m n = c) (w : World) : Calls Tryd.prog 17 #[.int .i64 n, .int .i64 1, .int .i64 (m.funcs.length - 1)] w fun e w' => e = .returned (.bool c) ∧ w = w' := within_is ((call_in m n).trans h) w
theorem eff_box (w : World) (a b : Obj) (cs : Array Value) {t : TypeId} (j : Nat) : (((w.alloc a).alloc b).alloc (.cells cs t)).cell? ⟨w.heap.size + 1 + 1, j, none⟩ = cs[j]? := by
  have e : ((w.alloc a).alloc b).heap.size = w.heap.size + 1 + 1 := by simp
  rw [← e]; exact hcell (hnew _ _) j
theorem mkf (fn : Fn) (first cap : Array Value) (w : World) : (Go.Instr.makeFunc fn first cap).run Tryd.prog w = .ok (.func fn first cap) w := rfl

set_option maxRecDepth 100000 in
set_option maxHeartbeats 4000000 in
theorem ef_1 {w : World} {b : Nat} {m : PM} {vf vc vk : Value} {f : PF} {g3 g4 g5 : Option Addr} {p3 p4 p5 : Nat} (h : EffAsk w b m vf vc vk f g3 g4 g5 p3 p4 p5) (x y : Int) :
    Calls Tryd.prog 30 #[.pointer (some ⟨b, 0, none⟩), .agg #[.string f.name, .int .i64 f.params, .int .i64 f.slots, .slice g3 f.code.length p3, .slice g4 f.hands.length p4, .slice g5 f.vars.length p5], .agg #[.int .i64 1, .int .i64 x, .int .i64 y]] w fun e w' => EffPost m f ⟨1, x, y⟩ w e w' := by
  obtain ⟨hI, h1, h2, h3, h4, h5, h6⟩ := h
  obtain ⟨_, ⟨gf, cf, rfl, _, _⟩, _⟩ := hI.img.funcs
  obtain ⟨gc, cc, rfl, _, _⟩ := hI.img.consts
  obtain ⟨_, ⟨gk, ck, rfl, _, _⟩, _⟩ := hI.img.classes
  have c0 := cell_al3 hI.c0
  have c1 := cell_al3 hI.c1
  have c2 := cell_al3 hI.c2
  have H := hide hI
  have hmf := mkf
  clear hI
  obtain ⟨bf, qf⟩ : ∃ c, inB y 0 50 = c := ⟨_, rfl⟩
  obtain ⟨bs, qs⟩ : ∃ c, belowB x f.slots = c := ⟨_, rfl⟩
  obtain ⟨ba, qa⟩ : ∃ c, belowB x f.code.length = c := ⟨_, rfl⟩
  obtain ⟨bn, qn⟩ : ∃ c, callB m x = c := ⟨_, rfl⟩
  go_enter Tryd.func30, Tryd.ntmps30
  go_wp2_with fail
  refine (within_is qf _).mono ?_
  rintro e wa ⟨rfl, rfl⟩
  go_wp2_with fail
  refine (within_bl qs _).mono ?_
  rintro e wa ⟨rfl, rfl⟩
  go_wp2_with fail
  refine (within_bl qa _).mono ?_
  rintro e wa ⟨rfl, rfl⟩
  go_wp2_with fail
  go_quiet ((go_at_call 17; exact Calls.quiet_of_same (same_back (within_cl qn _))))
  go_wp2_with fail
  exact bodyPost_ret (v := .tuple #[.bool true, .int .i64 0, .int .i64 0, .int .i64 (-1), .int .i64 0, .bool true]) (by simp [results, Tryd.results30, go_sem]) rfl (EffPost.mk rfl (fun _ => rfl) ⟨rfl, rfl, rfl, rfl⟩ (below3 _ _ _ _))
end Go.Proofs.YtcbgcjkcfolcoaaDoor

namespace Go.Proofs.YtcbgcjkcfolcoaaDoor
open Go.RowKit

set_option maxRecDepth 100000 in
set_option maxHeartbeats 4000000 in
theorem ef_3 {w : World} {b : Nat} {m : PM} {vf vc vk : Value} {f : PF} {g3 g4 g5 : Option Addr} {p3 p4 p5 : Nat} (h : EffAsk w b m vf vc vk f g3 g4 g5 p3 p4 p5) (x y : Int) :
    Calls Tryd.prog 30 #[.pointer (some ⟨b, 0, none⟩), .agg #[.string f.name, .int .i64 f.params, .int .i64 f.slots, .slice g3 f.code.length p3, .slice g4 f.hands.length p4, .slice g5 f.vars.length p5], .agg #[.int .i64 3, .int .i64 x, .int .i64 y]] w fun e w' => EffPost m f ⟨3, x, y⟩ w e w' := by
  obtain ⟨hI, h1, h2, h3, h4, h5, h6⟩ := h
  obtain ⟨_, ⟨gf, cf, rfl, _, _⟩, _⟩ := hI.img.funcs
  obtain ⟨gc, cc, rfl, _, _⟩ := hI.img.consts
  obtain ⟨_, ⟨gk, ck, rfl, _, _⟩, _⟩ := hI.img.classes
  have c0 := cell_al3 hI.c0
  have c1 := cell_al3 hI.c1
  have c2 := cell_al3 hI.c2
  have H := hide hI
  have hmf := mkf
  clear hI
  obtain ⟨bf, qf⟩ : ∃ c, inB y 0 50 = c := ⟨_, rfl⟩
  obtain ⟨bs, qs⟩ : ∃ c, belowB x f.slots = c := ⟨_, rfl⟩
  obtain ⟨ba, qa⟩ : ∃ c, belowB x f.code.length = c := ⟨_, rfl⟩
  obtain ⟨bn, qn⟩ : ∃ c, callB m x = c := ⟨_, rfl⟩
  go_enter Tryd.func30, Tryd.ntmps30
  go_wp2_with fail
  refine (within_is qf _).mono ?_
  rintro e wa ⟨rfl, rfl⟩
  go_wp2_with fail
  refine (within_bl qs _).mono ?_
  rintro e wa ⟨rfl, rfl⟩
  go_wp2_with fail
  refine (within_bl qa _).mono ?_
  rintro e wa ⟨rfl, rfl⟩
  go_wp2_with fail
  go_quiet ((go_at_call 17; exact Calls.quiet_of_same (same_back (within_cl qn _))))
  go_wp2_with fail
  exact bodyPost_ret (v := .tuple #[.bool true, .int .i64 0, .int .i64 1, .int .i64 (-1), .int .i64 0, .bool true]) (by simp [results, Tryd.results30, go_sem]) rfl (EffPost.mk rfl (fun _ => rfl) ⟨rfl, rfl, rfl, rfl⟩ (below3 _ _ _ _))

set_option maxRecDepth 100000 in
set_option maxHeartbeats 4000000 in
theorem ef_5 {w : World} {b : Nat} {m : PM} {vf vc vk : Value} {f : PF} {g3 g4 g5 : Option Addr} {p3 p4 p5 : Nat} (h : EffAsk w b m vf vc vk f g3 g4 g5 p3 p4 p5) (x y : Int) :
    Calls Tryd.prog 30 #[.pointer (some ⟨b, 0, none⟩), .agg #[.string f.name, .int .i64 f.params, .int .i64 f.slots, .slice g3 f.code.length p3, .slice g4 f.hands.length p4, .slice g5 f.vars.length p5], .agg #[.int .i64 5, .int .i64 x, .int .i64 y]] w fun e w' => EffPost m f ⟨5, x, y⟩ w e w' := by
  obtain ⟨hI, h1, h2, h3, h4, h5, h6⟩ := h
  obtain ⟨_, ⟨gf, cf, rfl, _, _⟩, _⟩ := hI.img.funcs
  obtain ⟨gc, cc, rfl, _, _⟩ := hI.img.consts
  obtain ⟨_, ⟨gk, ck, rfl, _, _⟩, _⟩ := hI.img.classes
  have c0 := cell_al3 hI.c0
  have c1 := cell_al3 hI.c1
  have c2 := cell_al3 hI.c2
  have H := hide hI
  have hmf := mkf
  clear hI
  obtain ⟨bf, qf⟩ : ∃ c, inB y 0 50 = c := ⟨_, rfl⟩
  obtain ⟨bs, qs⟩ : ∃ c, belowB x f.slots = c := ⟨_, rfl⟩
  obtain ⟨ba, qa⟩ : ∃ c, belowB x f.code.length = c := ⟨_, rfl⟩
  obtain ⟨bn, qn⟩ : ∃ c, callB m x = c := ⟨_, rfl⟩
  go_enter Tryd.func30, Tryd.ntmps30
  go_wp2_with fail
  refine (within_is qf _).mono ?_
  rintro e wa ⟨rfl, rfl⟩
  go_wp2_with fail
  refine (within_bl qs _).mono ?_
  rintro e wa ⟨rfl, rfl⟩
  go_wp2_with fail
  refine (within_bl qa _).mono ?_
  rintro e wa ⟨rfl, rfl⟩
  go_wp2_with fail
  go_quiet ((go_at_call 17; exact Calls.quiet_of_same (same_back (within_cl qn _))))
  go_wp2_with fail
  exact bodyPost_ret (v := .tuple #[.bool true, .int .i64 0, .int .i64 1, .int .i64 (-1), .int .i64 0, .bool true]) (by simp [results, Tryd.results30, go_sem]) rfl (EffPost.mk rfl (fun _ => rfl) ⟨rfl, rfl, rfl, rfl⟩ (below3 _ _ _ _))

set_option maxRecDepth 100000 in
set_option maxHeartbeats 4000000 in
theorem ef_19 {w : World} {b : Nat} {m : PM} {vf vc vk : Value} {f : PF} {g3 g4 g5 : Option Addr} {p3 p4 p5 : Nat} (h : EffAsk w b m vf vc vk f g3 g4 g5 p3 p4 p5) (x y : Int) :
    Calls Tryd.prog 30 #[.pointer (some ⟨b, 0, none⟩), .agg #[.string f.name, .int .i64 f.params, .int .i64 f.slots, .slice g3 f.code.length p3, .slice g4 f.hands.length p4, .slice g5 f.vars.length p5], .agg #[.int .i64 19, .int .i64 x, .int .i64 y]] w fun e w' => EffPost m f ⟨19, x, y⟩ w e w' := by
  obtain ⟨hI, h1, h2, h3, h4, h5, h6⟩ := h
  obtain ⟨_, ⟨gf, cf, rfl, _, _⟩, _⟩ := hI.img.funcs
  obtain ⟨gc, cc, rfl, _, _⟩ := hI.img.consts
  obtain ⟨_, ⟨gk, ck, rfl, _, _⟩, _⟩ := hI.img.classes
  have c0 := cell_al3 hI.c0
  have c1 := cell_al3 hI.c1
  have c2 := cell_al3 hI.c2
  have H := hide hI
  have hmf := mkf
  clear hI
  obtain ⟨bf, qf⟩ : ∃ c, inB y 0 50 = c := ⟨_, rfl⟩
  obtain ⟨bs, qs⟩ : ∃ c, belowB x f.slots = c := ⟨_, rfl⟩
  obtain ⟨ba, qa⟩ : ∃ c, belowB x f.code.length = c := ⟨_, rfl⟩
  obtain ⟨bn, qn⟩ : ∃ c, callB m x = c := ⟨_, rfl⟩
  go_enter Tryd.func30, Tryd.ntmps30
  go_wp2_with fail
  refine (within_is qf _).mono ?_
  rintro e wa ⟨rfl, rfl⟩
  go_wp2_with fail
  refine (within_bl qs _).mono ?_
  rintro e wa ⟨rfl, rfl⟩
  go_wp2_with fail
  refine (within_bl qa _).mono ?_
  rintro e wa ⟨rfl, rfl⟩
  go_wp2_with fail
  go_quiet ((go_at_call 17; exact Calls.quiet_of_same (same_back (within_cl qn _))))
  go_wp2_with fail
  exact bodyPost_ret (v := .tuple #[.bool true, .int .i64 1, .int .i64 1, .int .i64 (-1), .int .i64 0, .bool true]) (by simp [results, Tryd.results30, go_sem]) rfl (EffPost.mk rfl (fun _ => rfl) ⟨rfl, rfl, rfl, rfl⟩ (below3 _ _ _ _))

set_option maxRecDepth 100000 in
set_option maxHeartbeats 4000000 in
theorem ef_21 {w : World} {b : Nat} {m : PM} {vf vc vk : Value} {f : PF} {g3 g4 g5 : Option Addr} {p3 p4 p5 : Nat} (h : EffAsk w b m vf vc vk f g3 g4 g5 p3 p4 p5) (x y : Int) :
    Calls Tryd.prog 30 #[.pointer (some ⟨b, 0, none⟩), .agg #[.string f.name, .int .i64 f.params, .int .i64 f.slots, .slice g3 f.code.length p3, .slice g4 f.hands.length p4, .slice g5 f.vars.length p5], .agg #[.int .i64 21, .int .i64 x, .int .i64 y]] w fun e w' => EffPost m f ⟨21, x, y⟩ w e w' := by
  obtain ⟨hI, h1, h2, h3, h4, h5, h6⟩ := h
  obtain ⟨_, ⟨gf, cf, rfl, _, _⟩, _⟩ := hI.img.funcs
  obtain ⟨gc, cc, rfl, _, _⟩ := hI.img.consts
  obtain ⟨_, ⟨gk, ck, rfl, _, _⟩, _⟩ := hI.img.classes
  have c0 := cell_al3 hI.c0
  have c1 := cell_al3 hI.c1
  have c2 := cell_al3 hI.c2
  have H := hide hI
  have hmf := mkf
  clear hI
  obtain ⟨bf, qf⟩ : ∃ c, inB y 0 50 = c := ⟨_, rfl⟩
  obtain ⟨bs, qs⟩ : ∃ c, belowB x f.slots = c := ⟨_, rfl⟩
  obtain ⟨ba, qa⟩ : ∃ c, belowB x f.code.length = c := ⟨_, rfl⟩
  obtain ⟨bn, qn⟩ : ∃ c, callB m x = c := ⟨_, rfl⟩
  go_enter Tryd.func30, Tryd.ntmps30
  go_wp2_with fail
  refine (within_is qf _).mono ?_
  rintro e wa ⟨rfl, rfl⟩
  go_wp2_with fail
  refine (within_bl qs _).mono ?_
  rintro e wa ⟨rfl, rfl⟩
  go_wp2_with fail
  refine (within_bl qa _).mono ?_
  rintro e wa ⟨rfl, rfl⟩
  go_wp2_with fail
  go_quiet ((go_at_call 17; exact Calls.quiet_of_same (same_back (within_cl qn _))))
  go_wp2_with fail
  exact bodyPost_ret (v := .tuple #[.bool true, .int .i64 1, .int .i64 1, .int .i64 (-1), .int .i64 0, .bool true]) (by simp [results, Tryd.results30, go_sem]) rfl (EffPost.mk rfl (fun _ => rfl) ⟨rfl, rfl, rfl, rfl⟩ (below3 _ _ _ _))

set_option maxRecDepth 100000 in
set_option maxHeartbeats 4000000 in
theorem ef_23 {w : World} {b : Nat} {m : PM} {vf vc vk : Value} {f : PF} {g3 g4 g5 : Option Addr} {p3 p4 p5 : Nat} (h : EffAsk w b m vf vc vk f g3 g4 g5 p3 p4 p5) (x y : Int) :
    Calls Tryd.prog 30 #[.pointer (some ⟨b, 0, none⟩), .agg #[.string f.name, .int .i64 f.params, .int .i64 f.slots, .slice g3 f.code.length p3, .slice g4 f.hands.length p4, .slice g5 f.vars.length p5], .agg #[.int .i64 23, .int .i64 x, .int .i64 y]] w fun e w' => EffPost m f ⟨23, x, y⟩ w e w' := by
  obtain ⟨hI, h1, h2, h3, h4, h5, h6⟩ := h
  obtain ⟨_, ⟨gf, cf, rfl, _, _⟩, _⟩ := hI.img.funcs
  obtain ⟨gc, cc, rfl, _, _⟩ := hI.img.consts
  obtain ⟨_, ⟨gk, ck, rfl, _, _⟩, _⟩ := hI.img.classes
  have c0 := cell_al3 hI.c0
  have c1 := cell_al3 hI.c1
  have c2 := cell_al3 hI.c2
  have H := hide hI
  have hmf := mkf
  clear hI
  obtain ⟨bf, qf⟩ : ∃ c, inB y 0 50 = c := ⟨_, rfl⟩
  obtain ⟨bs, qs⟩ : ∃ c, belowB x f.slots = c := ⟨_, rfl⟩
  obtain ⟨ba, qa⟩ : ∃ c, belowB x f.code.length = c := ⟨_, rfl⟩
  obtain ⟨bn, qn⟩ : ∃ c, callB m x = c := ⟨_, rfl⟩
  go_enter Tryd.func30, Tryd.ntmps30
  go_wp2_with fail
  refine (within_is qf _).mono ?_
  rintro e wa ⟨rfl, rfl⟩
  go_wp2_with fail
  refine (within_bl qs _).mono ?_
  rintro e wa ⟨rfl, rfl⟩
  go_wp2_with fail
  refine (within_bl qa _).mono ?_
  rintro e wa ⟨rfl, rfl⟩
  go_wp2_with fail
  go_quiet ((go_at_call 17; exact Calls.quiet_of_same (same_back (within_cl qn _))))
  go_wp2_with fail
  exact bodyPost_ret (v := .tuple #[.bool true, .int .i64 2, .int .i64 1, .int .i64 (-1), .int .i64 0, .bool true]) (by simp [results, Tryd.results30, go_sem]) rfl (EffPost.mk rfl (fun _ => rfl) ⟨rfl, rfl, rfl, rfl⟩ (below3 _ _ _ _))

set_option maxRecDepth 100000 in
set_option maxHeartbeats 4000000 in
theorem ef_25 {w : World} {b : Nat} {m : PM} {vf vc vk : Value} {f : PF} {g3 g4 g5 : Option Addr} {p3 p4 p5 : Nat} (h : EffAsk w b m vf vc vk f g3 g4 g5 p3 p4 p5) (x y : Int) :
    Calls Tryd.prog 30 #[.pointer (some ⟨b, 0, none⟩), .agg #[.string f.name, .int .i64 f.params, .int .i64 f.slots, .slice g3 f.code.length p3, .slice g4 f.hands.length p4, .slice g5 f.vars.length p5], .agg #[.int .i64 25, .int .i64 x, .int .i64 y]] w fun e w' => EffPost m f ⟨25, x, y⟩ w e w' := by
  obtain ⟨hI, h1, h2, h3, h4, h5, h6⟩ := h
  obtain ⟨_, ⟨gf, cf, rfl, _, _⟩, _⟩ := hI.img.funcs
  obtain ⟨gc, cc, rfl, _, _⟩ := hI.img.consts
  obtain ⟨_, ⟨gk, ck, rfl, _, _⟩, _⟩ := hI.img.classes
  have c0 := cell_al3 hI.c0
  have c1 := cell_al3 hI.c1
  have c2 := cell_al3 hI.c2
  have H := hide hI
  have hmf := mkf
  clear hI
  obtain ⟨bf, qf⟩ : ∃ c, inB y 0 50 = c := ⟨_, rfl⟩
  obtain ⟨bs, qs⟩ : ∃ c, belowB x f.slots = c := ⟨_, rfl⟩
  obtain ⟨ba, qa⟩ : ∃ c, belowB x f.code.length = c := ⟨_, rfl⟩
  obtain ⟨bn, qn⟩ : ∃ c, callB m x = c := ⟨_, rfl⟩
  go_enter Tryd.func30, Tryd.ntmps30
  go_wp2_with fail
  refine (within_is qf _).mono ?_
  rintro e wa ⟨rfl, rfl⟩
  go_wp2_with fail
  refine (within_bl qs _).mono ?_
  rintro e wa ⟨rfl, rfl⟩
  go_wp2_with fail
  refine (within_bl qa _).mono ?_
  rintro e wa ⟨rfl, rfl⟩
  go_wp2_with fail
  go_quiet ((go_at_call 17; exact Calls.quiet_of_same (same_back (within_cl qn _))))
  go_wp2_with fail
  exact bodyPost_ret (v := .tuple #[.bool true, .int .i64 2, .int .i64 1, .int .i64 (-1), .int .i64 0, .bool true]) (by simp [results, Tryd.results30, go_sem]) rfl (EffPost.mk rfl (fun _ => rfl) ⟨rfl, rfl, rfl, rfl⟩ (below3 _ _ _ _))

set_option maxRecDepth 100000 in
set_option maxHeartbeats 4000000 in
theorem ef_27 {w : World} {b : Nat} {m : PM} {vf vc vk : Value} {f : PF} {g3 g4 g5 : Option Addr} {p3 p4 p5 : Nat} (h : EffAsk w b m vf vc vk f g3 g4 g5 p3 p4 p5) (x y : Int) :
    Calls Tryd.prog 30 #[.pointer (some ⟨b, 0, none⟩), .agg #[.string f.name, .int .i64 f.params, .int .i64 f.slots, .slice g3 f.code.length p3, .slice g4 f.hands.length p4, .slice g5 f.vars.length p5], .agg #[.int .i64 27, .int .i64 x, .int .i64 y]] w fun e w' => EffPost m f ⟨27, x, y⟩ w e w' := by
  obtain ⟨hI, h1, h2, h3, h4, h5, h6⟩ := h
  obtain ⟨_, ⟨gf, cf, rfl, _, _⟩, _⟩ := hI.img.funcs
  obtain ⟨gc, cc, rfl, _, _⟩ := hI.img.consts
  obtain ⟨_, ⟨gk, ck, rfl, _, _⟩, _⟩ := hI.img.classes
  have c0 := cell_al3 hI.c0
  have c1 := cell_al3 hI.c1
  have c2 := cell_al3 hI.c2
  have H := hide hI
  have hmf := mkf
  clear hI
  obtain ⟨bf, qf⟩ : ∃ c, inB y 0 50 = c := ⟨_, rfl⟩
  obtain ⟨bs, qs⟩ : ∃ c, belowB x f.slots = c := ⟨_, rfl⟩
  obtain ⟨ba, qa⟩ : ∃ c, belowB x f.code.length = c := ⟨_, rfl⟩
  obtain ⟨bn, qn⟩ : ∃ c, callB m x = c := ⟨_, rfl⟩
  go_enter Tryd.func30, Tryd.ntmps30
  go_wp2_with fail
  refine (within_is qf _).mono ?_
  rintro e wa ⟨rfl, rfl⟩
  go_wp2_with fail
  refine (within_bl qs _).mono ?_
  rintro e wa ⟨rfl, rfl⟩
  go_wp2_with fail
  refine (within_bl qa _).mono ?_
  rintro e wa ⟨rfl, rfl⟩
  go_wp2_with fail
  go_quiet ((go_at_call 17; exact Calls.quiet_of_same (same_back (within_cl qn _))))
  go_wp2_with fail
  exact bodyPost_ret (v := .tuple #[.bool true, .int .i64 2, .int .i64 1, .int .i64 (-1), .int .i64 0, .bool true]) (by simp [results, Tryd.results30, go_sem]) rfl (EffPost.mk rfl (fun _ => rfl) ⟨rfl, rfl, rfl, rfl⟩ (below3 _ _ _ _))

set_option maxRecDepth 100000 in
set_option maxHeartbeats 4000000 in
theorem ef_30 {w : World} {b : Nat} {m : PM} {vf vc vk : Value} {f : PF} {g3 g4 g5 : Option Addr} {p3 p4 p5 : Nat} (h : EffAsk w b m vf vc vk f g3 g4 g5 p3 p4 p5) (x y : Int) :
    Calls Tryd.prog 30 #[.pointer (some ⟨b, 0, none⟩), .agg #[.string f.name, .int .i64 f.params, .int .i64 f.slots, .slice g3 f.code.length p3, .slice g4 f.hands.length p4, .slice g5 f.vars.length p5], .agg #[.int .i64 30, .int .i64 x, .int .i64 y]] w fun e w' => EffPost m f ⟨30, x, y⟩ w e w' := by
  obtain ⟨hI, h1, h2, h3, h4, h5, h6⟩ := h
  obtain ⟨_, ⟨gf, cf, rfl, _, _⟩, _⟩ := hI.img.funcs
  obtain ⟨gc, cc, rfl, _, _⟩ := hI.img.consts
  obtain ⟨_, ⟨gk, ck, rfl, _, _⟩, _⟩ := hI.img.classes
  have c0 := cell_al3 hI.c0
  have c1 := cell_al3 hI.c1
  have c2 := cell_al3 hI.c2
  have H := hide hI
  have hmf := mkf
  clear hI
  obtain ⟨bf, qf⟩ : ∃ c, inB y 0 50 = c := ⟨_, rfl⟩
  obtain ⟨bs, qs⟩ : ∃ c, belowB x f.slots = c := ⟨_, rfl⟩
  obtain ⟨ba, qa⟩ : ∃ c, belowB x f.code.length = c := ⟨_, rfl⟩
  obtain ⟨bn, qn⟩ : ∃ c, callB m x = c := ⟨_, rfl⟩
  go_enter Tryd.func30, Tryd.ntmps30
  go_wp2_with fail
  refine (within_is qf _).mono ?_
  rintro e wa ⟨rfl, rfl⟩
  go_wp2_with fail
  refine (within_bl qs _).mono ?_
  rintro e wa ⟨rfl, rfl⟩
  go_wp2_with fail
  refine (within_bl qa _).mono ?_
  rintro e wa ⟨rfl, rfl⟩
  go_wp2_with fail
  go_quiet ((go_at_call 17; exact Calls.quiet_of_same (same_back (within_cl qn _))))
  go_wp2_with fail
  exact bodyPost_ret (v := .tuple #[.bool true, .int .i64 2, .int .i64 1, .int .i64 (-1), .int .i64 0, .bool true]) (by simp [results, Tryd.results30, go_sem]) rfl (EffPost.mk rfl (fun _ => rfl) ⟨rfl, rfl, rfl, rfl⟩ (below3 _ _ _ _))

set_option maxRecDepth 100000 in
set_option maxHeartbeats 4000000 in
theorem ef_40 {w : World} {b : Nat} {m : PM} {vf vc vk : Value} {f : PF} {g3 g4 g5 : Option Addr} {p3 p4 p5 : Nat} (h : EffAsk w b m vf vc vk f g3 g4 g5 p3 p4 p5) (x y : Int) :
    Calls Tryd.prog 30 #[.pointer (some ⟨b, 0, none⟩), .agg #[.string f.name, .int .i64 f.params, .int .i64 f.slots, .slice g3 f.code.length p3, .slice g4 f.hands.length p4, .slice g5 f.vars.length p5], .agg #[.int .i64 40, .int .i64 x, .int .i64 y]] w fun e w' => EffPost m f ⟨40, x, y⟩ w e w' := by
  obtain ⟨hI, h1, h2, h3, h4, h5, h6⟩ := h
  obtain ⟨_, ⟨gf, cf, rfl, _, _⟩, _⟩ := hI.img.funcs
  obtain ⟨gc, cc, rfl, _, _⟩ := hI.img.consts
  obtain ⟨_, ⟨gk, ck, rfl, _, _⟩, _⟩ := hI.img.classes
  have c0 := cell_al3 hI.c0
  have c1 := cell_al3 hI.c1
  have c2 := cell_al3 hI.c2
  have H := hide hI
  have hmf := mkf
  clear hI
  obtain ⟨bf, qf⟩ : ∃ c, inB y 0 50 = c := ⟨_, rfl⟩
  obtain ⟨bs, qs⟩ : ∃ c, belowB x f.slots = c := ⟨_, rfl⟩
  obtain ⟨ba, qa⟩ : ∃ c, belowB x f.code.length = c := ⟨_, rfl⟩
  obtain ⟨bn, qn⟩ : ∃ c, callB m x = c := ⟨_, rfl⟩
  go_enter Tryd.func30, Tryd.ntmps30
  go_wp2_with fail
  refine (within_is qf _).mono ?_
  rintro e wa ⟨rfl, rfl⟩
  go_wp2_with fail
  refine (within_bl qs _).mono ?_
  rintro e wa ⟨rfl, rfl⟩
  go_wp2_with fail
  refine (within_bl qa _).mono ?_
  rintro e wa ⟨rfl, rfl⟩
  go_wp2_with fail
  go_quiet ((go_at_call 17; exact Calls.quiet_of_same (same_back (within_cl qn _))))
  go_wp2_with fail
  exact bodyPost_ret (v := .tuple #[.bool true, .int .i64 1, .int .i64 0, .int .i64 (-1), .int .i64 0, .bool false]) (by simp [results, Tryd.results30, go_sem]) rfl (EffPost.mk rfl (fun _ => rfl) ⟨rfl, rfl, rfl, rfl⟩ (below3 _ _ _ _))

set_option maxRecDepth 100000 in
set_option maxHeartbeats 4000000 in
theorem ef_42 {w : World} {b : Nat} {m : PM} {vf vc vk : Value} {f : PF} {g3 g4 g5 : Option Addr} {p3 p4 p5 : Nat} (h : EffAsk w b m vf vc vk f g3 g4 g5 p3 p4 p5) (x y : Int) :
    Calls Tryd.prog 30 #[.pointer (some ⟨b, 0, none⟩), .agg #[.string f.name, .int .i64 f.params, .int .i64 f.slots, .slice g3 f.code.length p3, .slice g4 f.hands.length p4, .slice g5 f.vars.length p5], .agg #[.int .i64 42, .int .i64 x, .int .i64 y]] w fun e w' => EffPost m f ⟨42, x, y⟩ w e w' := by
  obtain ⟨hI, h1, h2, h3, h4, h5, h6⟩ := h
  obtain ⟨_, ⟨gf, cf, rfl, _, _⟩, _⟩ := hI.img.funcs
  obtain ⟨gc, cc, rfl, _, _⟩ := hI.img.consts
  obtain ⟨_, ⟨gk, ck, rfl, _, _⟩, _⟩ := hI.img.classes
  have c0 := cell_al3 hI.c0
  have c1 := cell_al3 hI.c1
  have c2 := cell_al3 hI.c2
  have H := hide hI
  have hmf := mkf
  clear hI
  obtain ⟨bf, qf⟩ : ∃ c, inB y 0 50 = c := ⟨_, rfl⟩
  obtain ⟨bs, qs⟩ : ∃ c, belowB x f.slots = c := ⟨_, rfl⟩
  obtain ⟨ba, qa⟩ : ∃ c, belowB x f.code.length = c := ⟨_, rfl⟩
  obtain ⟨bn, qn⟩ : ∃ c, callB m x = c := ⟨_, rfl⟩
  go_enter Tryd.func30, Tryd.ntmps30
  go_wp2_with fail
  refine (within_is qf _).mono ?_
  rintro e wa ⟨rfl, rfl⟩
  go_wp2_with fail
  refine (within_bl qs _).mono ?_
  rintro e wa ⟨rfl, rfl⟩
  go_wp2_with fail
  refine (within_bl qa _).mono ?_
  rintro e wa ⟨rfl, rfl⟩
  go_wp2_with fail
  go_quiet ((go_at_call 17; exact Calls.quiet_of_same (same_back (within_cl qn _))))
  go_wp2_with fail
  exact bodyPost_ret (v := .tuple #[.bool true, .int .i64 1, .int .i64 0, .int .i64 (-1), .int .i64 0, .bool true]) (by simp [results, Tryd.results30, go_sem]) rfl (EffPost.mk rfl (fun _ => rfl) ⟨rfl, rfl, rfl, rfl⟩ (below3 _ _ _ _))

set_option maxRecDepth 100000 in
set_option maxHeartbeats 4000000 in
theorem ef_44 {w : World} {b : Nat} {m : PM} {vf vc vk : Value} {f : PF} {g3 g4 g5 : Option Addr} {p3 p4 p5 : Nat} (h : EffAsk w b m vf vc vk f g3 g4 g5 p3 p4 p5) (x y : Int) :
    Calls Tryd.prog 30 #[.pointer (some ⟨b, 0, none⟩), .agg #[.string f.name, .int .i64 f.params, .int .i64 f.slots, .slice g3 f.code.length p3, .slice g4 f.hands.length p4, .slice g5 f.vars.length p5], .agg #[.int .i64 44, .int .i64 x, .int .i64 y]] w fun e w' => EffPost m f ⟨44, x, y⟩ w e w' := by
  obtain ⟨hI, h1, h2, h3, h4, h5, h6⟩ := h
  obtain ⟨_, ⟨gf, cf, rfl, _, _⟩, _⟩ := hI.img.funcs
  obtain ⟨gc, cc, rfl, _, _⟩ := hI.img.consts
  obtain ⟨_, ⟨gk, ck, rfl, _, _⟩, _⟩ := hI.img.classes
  have c0 := cell_al3 hI.c0
  have c1 := cell_al3 hI.c1
  have c2 := cell_al3 hI.c2
  have H := hide hI
  have hmf := mkf
  clear hI
  obtain ⟨bf, qf⟩ : ∃ c, inB y 0 50 = c := ⟨_, rfl⟩
  obtain ⟨bs, qs⟩ : ∃ c, belowB x f.slots = c := ⟨_, rfl⟩
  obtain ⟨ba, qa⟩ : ∃ c, belowB x f.code.length = c := ⟨_, rfl⟩
  obtain ⟨bn, qn⟩ : ∃ c, callB m x = c := ⟨_, rfl⟩
  go_enter Tryd.func30, Tryd.ntmps30
  go_wp2_with fail
  refine (within_is qf _).mono ?_
  rintro e wa ⟨rfl, rfl⟩
  go_wp2_with fail
  refine (within_bl qs _).mono ?_
  rintro e wa ⟨rfl, rfl⟩
  go_wp2_with fail
  refine (within_bl qa _).mono ?_
  rintro e wa ⟨rfl, rfl⟩
  go_wp2_with fail
  go_quiet ((go_at_call 17; exact Calls.quiet_of_same (same_back (within_cl qn _))))
  go_wp2_with fail
  exact bodyPost_ret (v := .tuple #[.bool true, .int .i64 1, .int .i64 1, .int .i64 (-1), .int .i64 0, .bool true]) (by simp [results, Tryd.results30, go_sem]) rfl (EffPost.mk rfl (fun _ => rfl) ⟨rfl, rfl, rfl, rfl⟩ (below3 _ _ _ _))
end Go.Proofs.YtcbgcjkcfolcoaaDoor
