/-
  A program's text is read again: tokens as trees.
  What is written does not hang on lines.
  Programs are held against each other.
  A program of one statement, as plain functions read it.
  An operation of a drawn region, taken first.
-/
import Derived.Test.YtndgajlidckcdaaGreatDoorB20
namespace Go.Proofs.YtndgajlidckcdaaGreatDoor
open Go.RowKit
set_option linter.unusedVariables false

theorem method_4 {L : Low} (hL : LowB L) {f d : Nat} {t : Tree} {us : List To} {S : LS} (hx : Wx t) (e : t.kind = 4) (hm : t.many ≤ f) (hf : f ≤ 1201) (hS : Stand ((kN f).S d t ++ us) S) : Go4 (methodP L S) us (Like t) := by
  cases f with
  | zero => rw [many_eq] at hm; omega
  | succ f =>
  have hS : Stand (kStm (xN f) (kN f) d t ++ us) S := hS
  have hh := hx.here.2
  rw [show cls t.kind = 2 by rw [e]; rfl] at hh
  obtain ⟨p, b, ek, hp, hb⟩ := hh
  rw [show kStm (xN f) (kN f) d t ++ us = nmT t.text :: (kFun (kN f) d t ++ us) by rw [kStm, e]; rfl] at hS
  unfold methodP
  refine (name_4 hS).bnd fun s S1 hs h1 => ?_
  subst hs
  refine (body_4 hL hx ek hp hb hm hf h1).bnd fun x S2 hq h2 => Go4.ret ?_ h2
  exact flat_named hx e rfl (by rw [ek]; show List.map flatT [x.1, x.2] = _; simp [show flatT x.1 = flatT p from hq.1, show flatT x.2 = flatT b from hq.2])
theorem methods_4 {L : Low} (hL : LowB L) {f d F : Nat} {us : List To} : ∀ (l : List Tree) (acc : List Tree) (S : LS), (∀ k ∈ l, Wx k ∧ k.kind = 4 ∧ k.many ≤ f) → f ≤ 1201 → l.length < F → Stand (kLines (kN f) d l ++ (sg [125] :: us)) S → Go4 (untilP tRight (methodP L) F acc S) us (Likes (acc ++ l)) := by
  induction F with
  | zero => intro l acc S _ _ hF _; omega
  | succ F ih =>
    intro l acc S hk hf hF hS
    rw [untilP]
    cases l with
    | nil =>
      refine (accept_4 (m := tRight) rfl hS).bnd fun b S2 hb h2 => ?_
      rw [if_pos hb]
      exact Go4.ret (by rw [List.append_nil]) h2
    | cons t l =>
      have e : kLines (kN f) d (t :: l) ++ (sg [125] :: us) = (kN f).S d t ++ (kLines (kN f) d l ++ (sg [125] :: us)) := by simp [kLines]
      rw [e] at hS
      have ht := hk t (List.mem_cons_self ..)
      rw [reject_4 (m := tRight) (sd_no (sd_stm ht.1 (Or.inr (Or.inr (Or.inr (Or.inl ht.2.1)))) ht.2.2 hf _)).1 hS]
      show Go4 (bnd (methodP L S) _) us _
      refine (method_4 hL ht.1 ht.2.1 ht.2.2 hf hS).bnd fun a S1 hq h1 => ?_
      rw [List.length_cons] at hF
      refine (ih l (acc ++ [a]) S1 (fun k h => hk k (List.mem_cons_of_mem _ h)) hf (by omega) h1).mono fun r hr => ?_
      show List.map _ _ = List.map _ _
      rw [show List.map flatT r = _ from hr]
      simp [show flatT a = flatT t from hq]
theorem fields_4 {f d : Nat} {us : List To} (hu : hdIs us wField = false) : ∀ (l : List Tree) (acc : List Tree) (F : Nat) (S : LS), (∀ k ∈ l, Wx k ∧ k.kind = 3 ∧ k.many ≤ f) → acc.length + l.length ≤ 8 → l.length < F → Stand (kLines (kN f) d l ++ us) S → Go4 (fieldsP F acc S) us (Likes (acc ++ l))
  | l, acc, 0, S, _, _, hF, _ => by omega
  | [], acc, F + 1, S, _, _, _, hS => by
    rw [fieldsP, if_neg (is_no hu hS)]
    exact Go4.ret (by rw [List.append_nil]) hS
  | t :: l, acc, F + 1, S, hk, ha, hF, hS => by
    rw [List.length_cons] at ha hF
    have ht := hk t (List.mem_cons_self ..)
    cases f with
    | zero => have := ht.2.2; rw [many_eq] at this; omega
    | succ f =>
    have e : kLines (kN (f + 1)) d (t :: l) ++ us = sg [102, 105, 101, 108, 100] :: nmT t.text :: sg [59] :: (kLines (kN (f + 1)) d l ++ us) := by
      have e2 : (kN (f + 1)).S d t = [sg [102, 105, 101, 108, 100], nmT t.text, sg [59]] := by show kStm (xN f) (kN f) d t = _; rw [kStm, ht.2.1]; rfl
      simp [kLines, e2]
    rw [e] at hS
    have hh := ht.1.here.2
    rw [show cls t.kind = 0 by rw [ht.2.1]; rfl] at hh
    have hh : t.kids = [] := hh
    rw [fieldsP, if_pos (is_yes rfl hS)]
    refine Go4.bnd (us := kLines (kN (f + 1)) d l ++ us) (Q := Like t) ?_ fun a S1 hq h1 => ?_
    · unfold fieldP
      refine (take_4 hS).bnd fun _ S1 _ h1 => ?_
      refine Go4.bnd (us := nmT t.text :: sg [59] :: (kLines (kN (f + 1)) d l ++ us)) (Q := fun _ => True) (by rw [limitP, if_neg (by omega)]; exact Go4.ret trivial h1) fun _ S2 _ h2 => ?_
      refine (name_4 h2).bnd fun s S3 hs h3 => ?_
      subst hs
      refine (want_4 (m := tSemi) rfl h3).bnd fun _ S4 _ h4 => Go4.ret ?_ h4
      exact flat_named ht.1 ht.2.1 rfl (by rw [hh])
    · refine (fields_4 hu l (acc ++ [a]) F S1 (fun k h => hk k (List.mem_cons_of_mem _ h)) (by rw [List.length_append]; show acc.length + 1 + l.length ≤ 8; omega) (by omega) h1).mono fun r hr => ?_
      show List.map _ _ = List.map _ _
      rw [show List.map flatT r = _ from hr]
      simp [show flatT a = flatT t from hq]
theorem under_4 {t : Tree} {us : List To} {S : LS} (hS : Stand (kUnder t ++ (sg [123] :: us)) S) : Go4 (underP S) (sg [123] :: us) (fun s => s = t.under) := by
  unfold underP
  unfold kUnder at hS
  split at hS
  · rename_i h
    rw [reject_4 (us := sg [123] :: us) rfl hS]
    exact Go4.ret h.symm hS
  · refine (accept_4 (m := tLess) rfl hS).bnd fun b S1 hb h1 => ?_
    rw [if_pos hb]
    exact name_4 h1
theorem class_4 {L : Low} (hL : LowB L) {f d : Nat} {t : Tree} {us : List To} {S : LS} (hx : Wx t) (e : t.kind = 2) (hm : t.many ≤ f + 1) (hf : f + 1 ≤ 1201) (hS : Stand (sg [99, 108, 97, 115, 115] :: nmT t.text :: (kUnder t ++ (kBraces (kN f) d t.kids ++ us))) S) : Go4 (classP L S) us (Like t) := by
  have hh := hx.here.2
  rw [show cls t.kind = 8 by rw [e]; rfl] at hh
  obtain ⟨fs, ms, ek, hl8, h3, h4⟩ := hh
  have hl := len_many t
  rw [ek, List.length_append] at hl
  have kf : ∀ k ∈ fs, Wx k ∧ k.kind = 3 ∧ k.many ≤ f := fun k h => ⟨hx.kid (by rw [ek]; exact List.mem_append_left _ h), h3 k h, manyKid hm (by rw [ek]; exact List.mem_append_left _ h)⟩
  have km : ∀ k ∈ ms, Wx k ∧ k.kind = 4 ∧ k.many ≤ f := fun k h => ⟨hx.kid (by rw [ek]; exact List.mem_append_right _ h), h4 k h, manyKid hm (by rw [ek]; exact List.mem_append_right _ h)⟩
  have et : kBraces (kN f) d t.kids ++ us = sg [123] :: (kLines (kN f) (d + 1) fs ++ (kLines (kN f) (d + 1) ms ++ (sg [125] :: us))) := by simp [kBraces, kLines, ek]
  rw [et] at hS
  have hu : hdIs (kLines (kN f) (d + 1) ms ++ (sg [125] :: us)) wField = false := by
    cases ms with
    | nil => rfl
    | cons k ms =>
      have hk := km k (List.mem_cons_self ..)
      cases f with
      | zero => have := hk.2.2; rw [many_eq] at this; omega
      | succ f =>
      have e2 : (kN (f + 1)).S (d + 1) k = nmT k.text :: kFun (kN f) (d + 1) k := by show kStm (xN f) (kN f) (d + 1) k = _; rw [kStm, hk.2.1]; rfl
      have e3 : kLines (kN (f + 1)) (d + 1) (k :: ms) ++ (sg [125] :: us) = nmT k.text :: (kFun (kN f) (d + 1) k ++ (kLines (kN (f + 1)) (d + 1) ms ++ (sg [125] :: us))) := by simp [kLines, e2]
      rw [e3]
      rfl
  unfold classP
  refine (take_4 hS).bnd fun _ S1 _ h1 => ?_
  refine (name_4 h1).bnd fun s S2 hs h2 => ?_
  refine (under_4 h2).bnd fun u S3 hu3 h3' => ?_
  refine (want_4 (m := tLeft) rfl h3').bnd fun _ S4 _ h4' => ?_
  refine (fields_4 hu fs [] 10 S4 kf (by show 0 + fs.length ≤ 8; omega) (by omega) h4').bnd fun fs' S5 hq5 h5 => ?_
  refine (methods_4 hL ms fs' S5 km (by omega) (by omega) h5).bnd fun ks S6 hq6 h6 => Go4.ret ?_ h6
  show flatT _ = flatT t
  rw [flat_eq, flat_eq t, hx.here.1.nn (by omega), ek, e]
  show (⟨2, s, u, 0, 0, ks.map flatT⟩ : Tree) = _
  rw [show List.map flatT ks = _ from hq6, hs, hu3, List.map_append, show List.map flatT fs' = _ from hq5, List.nil_append, ← List.map_append]
theorem outer_4 {L : Low} (hL : LowB L) {f : Nat} {t : Tree} {us : List To} {S : LS} (hx : Wx t) (hs : sK t ∨ t.kind = 2 ∨ t.kind = 5) (hm : t.many ≤ f) (hf : f ≤ 1201) (he : hdIs us wElse = false) (hS : Stand ((kN f).S 0 t ++ us) S) : Go4 (outermostP L S) us (Like t) := by
  rcases hs with h | h | h
  · have hd := sd_stm (d := 0) hx (Or.inl h) hm hf us
    obtain ⟨h0, r, e, _, _, _, h4⟩ := hd
    have h5 := h4 (by unfold sK at h; simpa using h)
    have n1 : hdIs ((kN f).S 0 t ++ us) wClass = false := by rw [e]; exact h5.1
    have n2 : hdIs ((kN f).S 0 t ++ us) wFn = false := by rw [e]; exact h5.2 rfl
    rw [outermostP, if_neg (is_no n1 hS), if_neg (is_no n2 hS)]
    exact hL.s hx h hm hf he hS
  · cases f with
    | zero => rw [many_eq] at hm; omega
    | succ f =>
    have hS : Stand (kStm (xN f) (kN f) 0 t ++ us) S := hS
    rw [show kStm (xN f) (kN f) 0 t ++ us = sg [99, 108, 97, 115, 115] :: nmT t.text :: (kUnder t ++ (kBraces (kN f) 0 t.kids ++ us)) by rw [kStm, h]; simp] at hS
    rw [outermostP, if_pos (is_yes rfl hS)]
    exact class_4 hL hx h hm hf hS
  · cases f with
    | zero => rw [many_eq] at hm; omega
    | succ f =>
    have hS : Stand (kStm (xN f) (kN f) 0 t ++ us) S := hS
    have hh := hx.here.2
    rw [show cls t.kind = 2 by rw [h]; rfl] at hh
    obtain ⟨p, b, ek, hp, hb⟩ := hh
    rw [show kStm (xN f) (kN f) 0 t ++ us = sg [102, 110] :: nmT t.text :: (kFun (kN f) 0 t ++ us) by rw [kStm, h]; simp] at hS
    rw [outermostP, if_neg (is_no rfl hS), if_pos (is_yes rfl hS)]
    unfold fnP
    refine (take_4 hS).bnd fun _ S1 _ h1 => ?_
    refine (name_4 h1).bnd fun s S2 hs h2 => ?_
    subst hs
    refine (body_4 hL hx ek hp hb hm hf h2).bnd fun x S3 hq h3 => Go4.ret ?_ h3
    exact flat_named hx h rfl (by rw [ek]; show List.map flatT [x.1, x.2] = _; simp [show flatT x.1 = flatT p from hq.1, show flatT x.2 = flatT b from hq.2])
theorem prog_4 {L : Low} (hL : LowB L) {f F : Nat} : ∀ (l : List Tree) (acc : List Tree) (S : LS), (∀ k ∈ l, Wx k ∧ (sK k ∨ k.kind = 2 ∨ k.kind = 5) ∧ k.many ≤ f) → f ≤ 1201 → l.length < F → Stand (kLines (kN f) 0 l) S → Go4 (progLoop L F acc S) [] (Likes (acc ++ l)) := by
  induction F with
  | zero => intro l acc S _ _ hF _; omega
  | succ F ih =>
    intro l acc S hk hf hF hS
    rw [progLoop]
    cases l with
    | nil =>
      rw [if_pos (show S.kd = 0 from hS)]
      exact Go4.ret (by rw [List.append_nil]) hS
    | cons t l =>
      have e : kLines (kN f) 0 (t :: l) = (kN f).S 0 t ++ kLines (kN f) 0 l := by simp [kLines]
      rw [e] at hS
      have ht := hk t (List.mem_cons_self ..)
      have hs2 : ∀ {k : Tree}, (sK k ∨ k.kind = 2 ∨ k.kind = 5) → (sK k ∨ k.kind = 2 ∨ k.kind = 3 ∨ k.kind = 4 ∨ k.kind = 5) := fun h => h.imp id fun h => h.elim Or.inl fun h => Or.inr (Or.inr (Or.inr h))
      have hd := sd_stm (d := 0) ht.1 (hs2 ht.2.1) ht.2.2 hf (kLines (kN f) 0 l)
      obtain ⟨h0, r, e0, _, _, hkd, _⟩ := hd
      have hS0 := hS
      rw [e0] at hS0
      obtain ⟨⟨a1, _⟩, _⟩ := hS0
      rw [if_neg (by rw [a1]; exact hkd)]
      have he : hdIs (kLines (kN f) 0 l) wElse = false := by
        cases l with
        | nil => rfl
        | cons t2 l =>
          have e : kLines (kN f) 0 (t2 :: l) = (kN f).S 0 t2 ++ kLines (kN f) 0 l := by simp [kLines]
          rw [e]
          have h2 := hk t2 (by simp)
          exact (sd_no (sd_stm h2.1 (hs2 h2.2.1) h2.2.2 hf _)).2
      refine (outer_4 hL ht.1 ht.2.1 ht.2.2 hf he hS).bnd fun a S1 hq h1 => ?_
      rw [List.length_cons] at hF
      refine (ih l (acc ++ [a]) S1 (fun k h => hk k (List.mem_cons_of_mem _ h)) hf (by omega) h1).mono fun r hr => ?_
      show List.map _ _ = List.map _ _
      rw [show List.map flatT r = _ from hr]
      simp [show flatT a = flatT t from hq]
/-- WHAT A PROGRAM'S TEXT TELLS IS THAT PROGRAM AGAIN, but for its lines; or it is too deep. -/
theorem back_pure {t : Tree} (hx : Wx t) (hk : t.kind = 1) (hm : t.many ≤ 1201) (v : Value) : (∃ p, readP (xText t) v = .inl (4, p)) ∨ ∃ a S', readP (xText t) v = .inr (a, S') ∧ flatT a = flatT t := by
  have hh := hx.here.2
  rw [show cls t.kind = 14 by rw [hk]; rfl] at hh
  obtain ⟨S, h1, h2⟩ := toks_text hx hk hm (firstS (xText t) v) rfl
  have hl := len_many t
  unfold readP
  rw [h1]
  show (∃ p, programP (lower 26) S = .inl (4, p)) ∨ ∃ a S', programP (lower 26) S = .inr (a, S') ∧ flatT a = flatT t
  have := (prog_4 (lower_4 26) (f := 1200) (F := 3002) t.kids [] S (fun k h => ⟨hx.kid h, hh k h, manyKid hm h⟩) (by omega) (by omega) h2).bnd (k := fun ks S1 => .inr (nd 1 S.tl ks, S1)) (vs := []) (R := Like t) fun ks S1 hq h1 => Go4.ret (flat_bare hx hk rfl hq) h1
  rcases this with ⟨p, e⟩ | ⟨a, S', e, hq, _⟩
  · exact Or.inl ⟨p, e⟩
  · exact Or.inr ⟨a, S', e, hq⟩
end Go.Proofs.YtndgajlidckcdaaGreatDoor

namespace Go.Proofs.YtndgajlidckcdaaGreatDoor
open Go.RowKit
set_option linter.unusedVariables false

theorem flat_kind (t : Tree) : (flatT t).kind = t.kind := by rw [flat_eq]
theorem flat_text (t : Tree) : (flatT t).text = t.text := by rw [flat_eq]
theorem flat_under (t : Tree) : (flatT t).under = t.under := by rw [flat_eq]
theorem flat_n (t : Tree) : (flatT t).n = t.n := by rw [flat_eq]
theorem flat_kids (t : Tree) : (flatT t).kids = t.kids.map flatT := by rw [flat_eq]
theorem flat_kid (t : Tree) (i : Nat) : kid (flatT t) i = flatT (kid t i) := by
  unfold kid
  rw [flat_kids, List.getD_eq_getElem?_getD, List.getD_eq_getElem?_getD, List.getElem?_map]
  cases t.kids[i]? with
  | none => rw [flat_eq]; rfl
  | some x => rfl
/-- What is written does not hang on lines. -/
structure FR (R : Wr) : Prop where
  b : ∀ d t, R.B d (flatT t) = R.B d t
  s : ∀ d t, R.S d (flatT t) = R.S d t
theorem xVal_f {R : Wr} (h : FR R) (d l : Nat) (t : Tree) : xVal R d l (flatT t) = xVal R d l t := by unfold xVal; rw [flat_kind, h.b]
theorem xVals_f {R : Wr} (h : FR R) (d : Nat) (l : List Tree) : xVals R d (l.map flatT) = xVals R d l := by
  unfold xVals
  rw [List.map_map]
  have e : (fun t => (xVal R d 1 t).data.toList) ∘ flatT = fun t => (xVal R d 1 t).data.toList := by funext t; show (xVal R d 1 (flatT t)).data.toList = _; rw [xVal_f h]
  rw [e]
theorem xArgs_f {R : Wr} (h : FR R) (d : Nat) (l : List Tree) : xArgs R d (l.map flatT) = xArgs R d l := by unfold xArgs; rw [xVals_f h]
theorem xLines_f {R : Wr} (h : FR R) (d : Nat) (l : List Tree) : xLines R d (l.map flatT) = xLines R d l := by
  unfold xLines xLine
  rw [List.flatMap_map]
  have e : (fun a => (xIn d ++ R.S d (flatT a) ++ (⟨#[10]⟩ : ByteArray)).data.toList) = fun t => (xIn d ++ R.S d t ++ (⟨#[10]⟩ : ByteArray)).data.toList := by funext t; rw [h.s]
  rw [e]
theorem xBraces_f {R : Wr} (h : FR R) (d : Nat) (l : List Tree) : xBraces R d (l.map flatT) = xBraces R d l := by unfold xBraces; rw [xLines_f h]
theorem xFun_f {R : Wr} (h : FR R) (d : Nat) (t : Tree) : xFun R d (flatT t) = xFun R d t := by unfold xFun; rw [flat_kid, flat_kid, flat_kids, flat_kids, xVals_f h, xBraces_f h]
theorem xGuard_f {R : Wr} (h : FR R) (d : Nat) (t : Tree) : xGuard R d (flatT t) = xGuard R d t := by unfold xGuard; rw [flat_kid, flat_kid, flat_kids, xVal_f h, xBraces_f h]
theorem xFirst_f {R : Wr} (h : FR R) (d : Nat) (t : Tree) : xFirst R d (flatT t) = xFirst R d t := by unfold xFirst; rw [flat_kid, xVal_f h]
theorem xCatch_f {R : Wr} (h : FR R) (d : Nat) (t : Tree) : xCatch R d (flatT t) = xCatch R d t := by unfold xCatch; rw [flat_kid, flat_kids, flat_text, xBraces_f h]
theorem xSimple_f {R : Wr} (h : FR R) (d : Nat) (t : Tree) : xSimple R d (flatT t) = xSimple R d t := by
  unfold xSimple
  rw [flat_kind, flat_n, flat_text, flat_kids, flat_kid, xArgs_f h, xVals_f h, xFun_f h, xVal_f h]
theorem xCalled_f {R : Wr} (h : FR R) (d : Nat) (t : Tree) : xCalled R d (flatT t) = xCalled R d t := by unfold xCalled; rw [flat_kid, flat_kind, h.b, xVal_f h]
theorem xBare_f {R : Wr} (h : FR R) (d : Nat) (t : Tree) : xBare R d (flatT t) = xBare R d t := by
  unfold xBare
  simp only [flat_kind, flat_text, flat_kids, flat_kid, xVal_f h, xCalled_f h, xSimple_f h, ← List.map_drop, xArgs_f h]
theorem xStm_f {R : Wr} (h : FR R) (d : Nat) (t : Tree) : xStm R d (flatT t) = xStm R d t := by
  unfold xStm xIf xRet xUnder
  simp only [flat_kind, flat_text, flat_under, flat_kids, flat_kid, xVal_f h, xFun_f h, xGuard_f h, xFirst_f h, xBraces_f h, xCatch_f h, List.length_map]
theorem xN_f : ∀ f, FR (xN f)
  | 0 => ⟨fun _ _ => rfl, fun _ _ => rfl⟩
  | f + 1 => ⟨fun d t => xBare_f (xN_f f) d t, fun d t => xStm_f (xN_f f) d t⟩
theorem text_like {t a : Tree} (h : flatT a = flatT t) : xText a = xText t := by
  have e : ∀ t, xText (flatT t) = xText t := fun t => by unfold xText; rw [flat_kids, xLines_f (xN_f 1200)]
  rw [← e a, h, e t]
theorem many_flat : ∀ t, (flatT t).many = t.many := by
  refine tree_ind _ fun t ih => ?_
  rw [many_eq, many_eq t, flat_kids, List.map_map]
  have : t.kids.map (Tree.many ∘ flatT) = t.kids.map Tree.many := List.map_congr_left fun k hk => ih k hk
  rw [this]
theorem many_like {t a : Tree} (h : flatT a = flatT t) : a.many = t.many := by rw [← many_flat a, h, many_flat]
/-- Two that are the same but for lines. -/
def LkT (t t' : Tree) : Prop := flatT t' = flatT t
theorem LkT.parts {t t' : Tree} (h : LkT t t') : t'.kind = t.kind ∧ t'.text = t.text ∧ t'.under = t.under ∧ t'.n = t.n ∧ t'.kids.length = t.kids.length ∧ ∀ (i : Nat) (h : i < t.kids.length) (h' : i < t'.kids.length), LkT t.kids[i] t'.kids[i] := by
  unfold LkT at h
  rw [flat_eq, flat_eq t] at h
  injection h with h1 h2 h3 h4 _ h6
  have hl : t'.kids.length = t.kids.length := by have := congrArg List.length h6; simpa using this
  refine ⟨h1, h2, h3, h4, hl, fun i hi hi' => ?_⟩
  have : (t'.kids.map flatT)[i]'(by simpa using hi') = (t.kids.map flatT)[i]'(by simpa using hi) := by simp only [h6]
  show flatT _ = flatT _
  simpa using this
end Go.Proofs.YtndgajlidckcdaaGreatDoor

namespace Go.Proofs.YtndgajlidckcdaaGreatDoor
open Go.RowKit

set_option maxRecDepth 100000 in
set_option maxHeartbeats 8000000 in
theorem flat_like {A B : Nat → Prop} : ∀ (t : Tree) (t' : Tree) (w : World) (v v' : Value), LkT t t' → NodeAt A w v t → NodeAt B w v' t' → Calls Tryz.prog 18 #[v, v'] w fun e w' => e = .returned (.bool true) ∧ ∃ m, w' = w.drewN m := by
  refine tree_ind _ fun t ih t' w v v' hup h h' => ?_
  obtain ⟨u1, u2, u3, u4, u6, u7⟩ := hup.parts
  rw [NodeAt_iff] at h h'
  obtain ⟨b, ty, ks, vs, rfl, _, h3, h4, h5, h6⟩ := h
  obtain ⟨b', ty', ks', vs', rfl, _, h3', h4', h5', h6'⟩ := h'
  have IH : Hid (∀ (i m : Nat) (hi : i < t.kids.length), Calls Tryz.prog 18 #[vs.getD i undef, vs'.getD i undef] (w.drewN m) fun e w' => e = .returned (.bool true) ∧ ∃ j, w' = (w.drewN m).drewN j) :=
    fun i m hi => ih _ (List.getElem_mem hi) _ _ _ _ (u7 i hi (by omega)) ((h6 i hi).drewN m) ((h6' i (by omega)).drewN m)
  clear ih h6 h6' u7
  have c0 : w.cell? ⟨b, 0, none⟩ = some (.int .i64 t.kind) := hcell h3 0
  have c1 : w.cell? ⟨b, 1, none⟩ = some (.string t.text) := hcell h3 1
  have c2 : w.cell? ⟨b, 2, none⟩ = some (.string t.under) := hcell h3 2
  have c3 : w.cell? ⟨b, 3, none⟩ = some (.int .i64 t.n) := hcell h3 3
  have c5 : w.cell? ⟨b, 5, none⟩ = some ks := hcell h3 5
  have d0 : w.cell? ⟨b', 0, none⟩ = some (.int .i64 t.kind) := by rw [← u1]; exact hcell h3' 0
  have d1 : w.cell? ⟨b', 1, none⟩ = some (.string t.text) := by rw [← u2]; exact hcell h3' 1
  have d2 : w.cell? ⟨b', 2, none⟩ = some (.string t.under) := by rw [← u3]; exact hcell h3' 2
  have d3 : w.cell? ⟨b', 3, none⟩ = some (.int .i64 t.n) := by rw [← u4]; exact hcell h3' 3
  have d5 : w.cell? ⟨b', 5, none⟩ = some ks' := hcell h3' 5
  have hlen : vs'.length = vs.length := by omega
  clear u1 u2 u3 u4 h3 h3' hup
  obtain ⟨N, hN⟩ : ∃ N, vs.length = N := ⟨_, rfl⟩
  have hkN : t.kids.length = N := by omega
  have hN' : vs'.length = N := by omega
  obtain ⟨g, cap, rfl, hmax, hcells⟩ : ∃ g cap, ks = .slice g N cap ∧ N ≤ maxLen ∧ ∀ i, i < N → ∃ a, g = some ⟨a, 0, none⟩ ∧ w.cell? ⟨a, i, none⟩ = some (vs.getD i undef) := by
    rcases h4.cellAt with ⟨rfl, rfl⟩ | ⟨g, cap, rfl, hm, hc⟩
    · have hN0 : N = 0 := by rw [← hN]; rfl
      exact ⟨none, 0, by rw [hN0], by omega, fun i hi => by omega⟩
    · exact ⟨some ⟨g, 0, none⟩, cap, by rw [hN], by omega, fun i hi => ⟨g, rfl, hc i (by omega)⟩⟩
  obtain ⟨g', cap', rfl, _, hcells'⟩ : ∃ g cap, ks' = .slice g N cap ∧ N ≤ maxLen ∧ ∀ i, i < N → ∃ a, g = some ⟨a, 0, none⟩ ∧ w.cell? ⟨a, i, none⟩ = some (vs'.getD i undef) := by
    rcases h4'.cellAt with ⟨rfl, rfl⟩ | ⟨g, cap, rfl, hm, hc⟩
    · have hN0 : N = 0 := by rw [← hN']; rfl
      exact ⟨none, 0, by rw [hN0], by omega, fun i hi => by omega⟩
    · exact ⟨some ⟨g, 0, none⟩, cap, by rw [hN'], by omega, fun i hi => ⟨g, rfl, hc i (by omega)⟩⟩
  clear h4 h4' h5 h5' hlen hN hN'
  have HC := hide hcells
  have HC' := hide hcells'
  clear hcells hcells'
  unfold maxLen at hmax
  have hkN' := hide hkN
  clear hkN
  generalize t.kind = q0 at *
  generalize t.text = q1 at *
  generalize t.under = q2 at *
  generalize t.n = q3 at *
  go_enter Tryz.func18, Tryz.ntmps18
  go_wp2_with fail
  go_quiet (fail)
  go_wp2_with fail
  go_loopg [5] N (fun gg i wr => ∃ (k : Nat), k ≤ N ∧ gg = N - k ∧ i = .int .i64 k ∧ Hid (∃ m, wr = w.drewN m))
  case atStart => exact ⟨0, Nat.zero_le _, rfl, rfl, ⟨_, rfl⟩⟩
  case round =>
    obtain ⟨i, hi, rfl, rfl, HW⟩ := hrel
    obtain ⟨m, hm⟩ := unhide HW
    have k5 : wr.cell? ⟨b, 5, none⟩ = some (.slice g N cap) := by rw [hm]; exact c5
    have l5 : wr.cell? ⟨b', 5, none⟩ = some (.slice g' N cap') := by rw [hm]; exact d5
    clear c5 d5 c0 c1 c2 c3 d0 d1 d2 d3
    by_cases hlt : i < N
    · obtain ⟨a, rfl, e1⟩ := unhide HC i hlt
      obtain ⟨a', rfl, e1'⟩ := unhide HC' i hlt
      have hlt2 : (i : Int) < (N : Int) := by omega
      have e2 : wr.cell? ⟨a, i, none⟩ = some (vs.getD i undef) := by rw [hm]; exact e1
      have e2' : wr.cell? ⟨a', i, none⟩ = some (vs'.getD i undef) := by rw [hm]; exact e1'
      have HI : Hid (∀ n, Calls Tryz.prog 18 #[vs.getD i undef, vs'.getD i undef] (wr.drewN n) fun e w' => e = .returned (.bool true) ∧ ∃ j, w' = (wr.drewN n).drewN j) := fun n => by
        have := unhide IH i (m + n) (by rw [unhide hkN']; exact hlt)
        rw [hm, World.drewN_drewN]
        exact this
      clear IH HC HC' e1 e1' hm
      generalize vs.getD i undef = x at *
      generalize vs'.getD i undef = x' at *
      go_wp2_with fail
      go_quiet ((go_at_call 18; exact Calls.quiet_of (unhide HI _)))
      go_wp2_with fail
      go_roundg (N - (i + 1))
      case measure => omega
      case rel => exact ⟨i + 1, by omega, rfl, by go_num, by obtain ⟨m, hm⟩ := unhide HW; exact ⟨m + nq, by rw [hm, World.drewN_drewN]⟩⟩
    · obtain rfl : i = N := by omega
      have hf : decide ((i : Int) < (i : Int)) = false := by simp
      clear IH HC HC' hm
      go_wp2_with fail
      go_ret
      exact ⟨rfl, unhide HW⟩
end Go.Proofs.YtndgajlidckcdaaGreatDoor

namespace Go.Proofs.YtndgajlidckcdaaGreatDoor
open Go.RowKit

def lit : ByteArray := ⟨#[112, 114, 105, 110, 116, 40, 49, 43, 50, 41, 59]⟩
/-- The reader of it at a token. -/
def tkS (v : Value) (dp pl tp kd : Nat) (mrk : ByteArray) (n : Int) : LS := ⟨lit, pl, 1, kd, tp, 1, mrk, ⟨#[]⟩, n, dp, v⟩
def tk1 (v : Value) (dp : Nat) : LS := tkS v dp 5 0 1 ⟨#[112, 114, 105, 110, 116]⟩ 0
def tk2 (v : Value) (dp : Nat) : LS := tkS v dp 6 5 1 ⟨#[40]⟩ 0
def tk3 (v : Value) (dp : Nat) : LS := tkS v dp 7 6 3 ⟨#[]⟩ 1
def tk4 (v : Value) (dp : Nat) : LS := tkS v dp 8 7 1 ⟨#[43]⟩ 0
def tk5 (v : Value) (dp : Nat) : LS := tkS v dp 9 8 3 ⟨#[]⟩ 2
def tk6 (v : Value) (dp : Nat) : LS := tkS v dp 10 9 1 ⟨#[41]⟩ 0
def tk7 (v : Value) (dp : Nat) : LS := tkS v dp 11 10 1 ⟨#[59]⟩ 0
def tk8 (v : Value) (dp : Nat) : LS := tkS v dp 11 11 0 ⟨#[]⟩ 0
def leaf1 : Tree := ⟨18, ⟨#[]⟩, noText, 1, 1, []⟩
def leaf2 : Tree := ⟨18, ⟨#[]⟩, noText, 2, 1, []⟩
def sum12 : Tree := nd 35 1 [leaf1, leaf2]
def prog12 : Tree := nd 1 1 [nd 16 1 [sum12]]

theorem adv1 (v : Value) : advP (firstS lit v) = .inr (tk1 v 0) := by kernel_rfl
theorem take1 (v : Value) (d : Nat) : takeP (tk1 v d) = .inr ((), tk2 v d) := by kernel_rfl
theorem num_at {S : LS} {p l u : Nat} (hk : skipP S.src (S.src.size - S.pl) S.pl S.ln = (p, l)) (h0 : p < S.src.size) (h1 : lt (byteAt S.src p) = false) (h2 : dg (byteAt S.src p) = true) {n : ByteArray} (h3 : numAt (S.fresh p l) = n) (hu : Lib.parseUintB 64 n.data.toList = .ok u) (hl : u < 100) {q : Nat} (hq : numEnd (S.fresh p l) = q) :
    takeP S = .inr ((), { S.fresh p l with pl := q, kd := 3, nn := u }) := by
  have e : advP S = .inr { S.fresh p l with pl := q, kd := 3, nn := u } := by
    rw [advP, hk]
    show advS (S.fresh p l) = _
    have hw : wrap64 (u : Int) = (u : Int) := by unfold wrap64; omega
    rw [advS_num (S := S.fresh p l) h0 h1 h2 (by rw [h3]; exact hu) (by simp; omega), hq, hw]
  rw [takeP, e]
theorem parse_one : Lib.parseUintB 64 [49] = .ok 1 := by simp [Lib.parseUintB, Lib.parseUintM]
theorem parse_two : Lib.parseUintB 64 [50] = .ok 2 := by simp [Lib.parseUintB, Lib.parseUintM]
theorem take2 (v : Value) (d : Nat) : takeP (tk2 v d) = .inr ((), tk3 v d) :=
  num_at (S := tk2 v d) (p := 6) (l := 1) (u := 1) (q := 7) (n := ⟨#[49]⟩) (by kernel_rfl) (show 6 < 11 by decide) (by kernel_rfl) (by kernel_rfl) (by kernel_rfl) parse_one (by decide) (by kernel_rfl)
theorem want2 (v : Value) (d : Nat) : wantP tOpen (tk2 v d) = .inr ((), tk3 v d) := by
  rw [wantP, if_pos (by kernel_rfl)]
  exact take2 v d
theorem take4 (v : Value) (d : Nat) : takeP (tk4 v d) = .inr ((), tk5 v d) :=
  num_at (S := tk4 v d) (p := 8) (l := 1) (u := 2) (q := 9) (n := ⟨#[50]⟩) (by kernel_rfl) (show 8 < 11 by decide) (by kernel_rfl) (by kernel_rfl) (by kernel_rfl) parse_two (by decide) (by kernel_rfl)
theorem want6 (v : Value) (d : Nat) : wantP tShut (tk6 v d) = .inr ((), tk7 v d) := by kernel_rfl
theorem want7 (v : Value) (d : Nat) : wantP tSemi (tk7 v d) = .inr ((), tk8 v d) := by kernel_rfl
theorem take3 (v : Value) (d : Nat) : takeP (tk3 v d) = .inr ((), tk4 v d) := by kernel_rfl
theorem take5 (v : Value) (d : Nat) : takeP (tk5 v d) = .inr ((), tk6 v d) := by kernel_rfl
theorem acc_no {m : ByteArray} {S : LS} (h : S.is m = false) : acceptP m S = .inr (false, S) := by rw [acceptP, if_neg (by rw [h]; decide)]
theorem suf_stop {L : Low} {f : Nat} {t : Tree} {S : LS} (h1 : S.is tDot = false) (h2 : S.is tSquare = false) (h3 : S.is tOpen = false) : sufLoop L (f + 1) t S = .inr (t, S) := by
  rw [sufLoop, bnd_inr (acc_no h1), if_neg (by decide), bnd_inr (acc_no h2), if_neg (by decide), bnd_inr (acc_no h3), if_neg (by decide)]
theorem pre_num {L : Low} {S S1 : LS} (h1 : S.is tNot = false) (h2 : S.is tMinus = false) (hk : S.kd = 3) (ht : takeP S = .inr ((), S1)) (k1 : S1.is tDot = false) (k2 : S1.is tSquare = false) (k3 : S1.is tOpen = false) :
    prefixedP L S = .inr (⟨18, S.tx, noText, S.nn, S.tl, []⟩, S1) := by
  have e : simpleP L S = .inr (⟨18, S.tx, noText, S.nn, S.tl, []⟩, S1) := by
    rw [simpleP, if_neg (by rw [hk]; decide), if_pos hk, leafP, bnd_inr ht]
  rw [prefixedP, if_neg (by rw [h1]; decide), if_neg (by rw [h2]; decide), suffixedP, bnd_inr e]
  exact suf_stop k1 k2 k3
theorem pre3 (L : Low) (v : Value) (d : Nat) : prefixedP L (tk3 v d) = .inr (leaf1, tk4 v d) :=
  pre_num (by kernel_rfl) (by kernel_rfl) (by kernel_rfl) (take3 v d) (by kernel_rfl) (by kernel_rfl) (by kernel_rfl)
theorem pre5 (L : Low) (v : Value) (d : Nat) : prefixedP L (tk5 v d) = .inr (leaf2, tk6 v d) :=
  pre_num (by kernel_rfl) (by kernel_rfl) (by kernel_rfl) (take5 v d) (by kernel_rfl) (by kernel_rfl) (by kernel_rfl)
theorem j4 (v : Value) (d : Nat) : joinerP 6 (tk4 v d) = 0 ∧ joinerP 5 (tk4 v d) = 35 := ⟨by kernel_rfl, by kernel_rfl⟩
theorem j6 (v : Value) (d : Nat) : joinerP 6 (tk6 v d) = 0 ∧ joinerP 5 (tk6 v d) = 0 ∧ joinerP 4 (tk6 v d) = 0 ∧ joinerP 3 (tk6 v d) = 0 ∧ joinerP 2 (tk6 v d) = 0 ∧ joinerP 1 (tk6 v d) = 0 := ⟨by kernel_rfl, by kernel_rfl, by kernel_rfl, by kernel_rfl, by kernel_rfl, by kernel_rfl⟩

theorem join_stop {lev : Nat} {P : LS → Res Tree} {S S1 : LS} {t : Tree} (h : P S = .inr (t, S1)) (hj : joinerP lev S1 = 0) : joinP lev P S = .inr (t, S1) := by
  rw [joinP, bnd_inr h, joinLoop, if_pos hj]
theorem join_once {lev kd : Nat} {P : LS → Res Tree} {S S1 S2 S3 : LS} {t u : Tree} (h : P S = .inr (t, S1)) (hj : joinerP lev S1 = kd) (hk : kd ≠ 0) (ht : takeP S1 = .inr ((), S2)) (h2 : P S2 = .inr (u, S3)) (hj3 : joinerP lev S3 = 0) : joinP lev P S = .inr (around kd t [u], S3) := by
  rw [joinP, bnd_inr h, joinLoop, if_neg (by rw [hj]; exact hk), bnd_inr ht, bnd_inr h2, joinLoop, if_pos hj3, hj]
theorem jo12 (L : Low) (v : Value) (d : Nat) : jo (prefixedP L) 6 (tk3 v d) = .inr (sum12, tk6 v d) := by
  have a1 : jo (prefixedP L) 1 (tk3 v d) = .inr (leaf1, tk4 v d) := join_stop (pre3 L v d) (j4 v d).1
  have a2 : jo (prefixedP L) 1 (tk5 v d) = .inr (leaf2, tk6 v d) := join_stop (pre5 L v d) (j6 v d).1
  have b : jo (prefixedP L) 2 (tk3 v d) = .inr (sum12, tk6 v d) := join_once a1 (j4 v d).2 (by decide) (take4 v d) a2 (j6 v d).2.1
  have c : jo (prefixedP L) 3 (tk3 v d) = .inr (sum12, tk6 v d) := join_stop b (j6 v d).2.2.1
  have e : jo (prefixedP L) 4 (tk3 v d) = .inr (sum12, tk6 v d) := join_stop c (j6 v d).2.2.2.1
  have f : jo (prefixedP L) 5 (tk3 v d) = .inr (sum12, tk6 v d) := join_stop e (j6 v d).2.2.2.2.1
  exact join_stop f (j6 v d).2.2.2.2.2
theorem deep_at {P : LS → Res Tree} {S S1 S2 S3 : LS} {t : Tree} (h25 : S.dp ≠ 25) (hS : { S with dp := S.dp + 1 } = S2) (h : P S2 = .inr (t, S1)) (hT : { S1 with dp := S1.dp - 1 } = S3) : deepP P S = .inr (t, S3) := by
  rw [deepP, if_neg h25, hS, bnd_inr h, hT]
theorem lower_v (d : Nat) : (lower (d + 1)).V = deepP (jo (prefixedP (lower d)) 6) := rfl
theorem lower_s (d : Nat) : (lower (d + 1)).S = deepP (anyP (lower d)) := rfl
theorem value12 (d : Nat) (v : Value) : (lower (d + 1)).V (tk3 v 1) = .inr (sum12, tk6 v 1) := by
  rw [lower_v]
  exact deep_at (S2 := tk3 v 2) (S1 := tk6 v 2) (show (1 : Nat) ≠ 25 by decide) rfl (jo12 (lower d) v 2) rfl
theorem par12 (d : Nat) (v : Value) : inParP (lower (d + 1)) (tk2 v 1) = .inr (sum12, tk7 v 1) := by
  rw [inParP, bnd_inr (want2 v 1), bnd_inr (value12 d v), bnd_inr (want6 v 1)]
theorem any12 (d : Nat) (v : Value) : anyP (lower (d + 1)) (tk1 v 1) = .inr (nd 16 1 [sum12], tk8 v 1) := by
  have e : anyP (lower (d + 1)) (tk1 v 1) = endP 16 (inParP (lower (d + 1))) (tk1 v 1) := by
    have h0 : (tk1 v 1).is wVar = false := by kernel_rfl
    have h1 : (tk1 v 1).is wIf = false := by kernel_rfl
    have h2 : (tk1 v 1).is wWhile = false := by kernel_rfl
    have h3 : (tk1 v 1).is wReturn = false := by kernel_rfl
    have h4 : (tk1 v 1).is wThrow = false := by kernel_rfl
    have h5 : (tk1 v 1).is wPrint = true := by kernel_rfl
    rw [anyP, h0, h1, h2, h3, h4, h5]
    rfl
  rw [e, endP, bnd_inr (take1 v 1), closeP, bnd_inr (par12 d v), bnd_inr (want7 v 1)]
  rfl
theorem stmt12 (d : Nat) (v : Value) : (lower (d + 2)).S (tk1 v 0) = .inr (nd 16 1 [sum12], tk8 v 0) := by
  rw [lower_s]
  exact deep_at (S2 := tk1 v 1) (S1 := tk8 v 1) (show (0 : Nat) ≠ 25 by decide) rfl (any12 d v) rfl
theorem outer12 (d : Nat) (v : Value) : outermostP (lower (d + 2)) (tk1 v 0) = .inr (nd 16 1 [sum12], tk8 v 0) := by
  have h0 : (tk1 v 0).is wClass = false := by kernel_rfl
  have h1 : (tk1 v 0).is wFn = false := by kernel_rfl
  rw [outermostP, h0, h1, if_neg (by decide), if_neg (by decide)]
  exact stmt12 d v
theorem prog12_read (d : Nat) (v : Value) : programP (lower (d + 2)) (tk1 v 0) = .inr (prog12, tk8 v 0) := by
  have e : progLoop (lower (d + 2)) 3002 [] (tk1 v 0) = .inr ([nd 16 1 [sum12]], tk8 v 0) := by
    have k1 : ¬ (tk1 v 0).kd = 0 := by show ¬ (1 : Nat) = 0; decide
    have k8 : (tk8 v 0).kd = 0 := rfl
    rw [progLoop, if_neg k1, bnd_inr (outer12 d v), progLoop, if_pos k8]
    rfl
  rw [programP, bnd_inr e]
  rfl
theorem readP_lit (v : Value) : readP lit v = .inr (prog12, tk8 v 0) := by
  rw [readP, adv1]
  exact prog12_read 24 v
theorem parseT_lit (v : Value) : parseT lit v = some prog12 := by
  have hm : prog12.many = 5 := by simp [prog12, sum12, leaf1, leaf2, nd, many_eq]
  rw [parseT, if_neg (by decide), readP_lit]
  show (if 1200 < wrap64 ((prog12.many : Nat) : Int) then none else some prog12) = _
  rw [hm, if_neg (by simp [wrap64])]
end Go.Proofs.YtndgajlidckcdaaGreatDoor

namespace Go.Proofs.YtndgajlidckcdaaGreatDoor
open Go.RowKit

theorem tka {P : Program} {ops : Array Oper} {Q : Exit → Act → World → Prop} {md : Region.Mode} {S : World → Prop} (i s : Nat) {op : Op} {ty : TypeId} {pos : String} {af : Array Edge} {gd : Option (Nat × Bool)} {v : Value} {fuel : Nat} {listed : Array Bool} {tmps : Array Value} {df : List Deferred} {w : World} (hi : ops[i]? = some ⟨some s, op, ty, pos, af, gd⟩)
    (h : wpAnyH P md ops Q S fuel (listed.setIfInBounds i true) ⟨tmps.setIfInBounds s v, df⟩ w)
    (hy : ∀ w', S w' → (execOp (Act.eval ⟨tmps, df⟩) ⟨some s, op, ty, pos, af, gd⟩).run P w' = .ok (.value v) w' := by (intro w h; (try dsimp only at h); go_simp; (try with_reducible rfl))) (hs : Region.noSelect ops = true := by kernel_rfl) (hf : Region.free md ops listed i = true := by kernel_rfl) (hr : (Region.ready md ops listed).contains i = true := by kernel_rfl) (hQ : ∀ c a w, Q (.panic c) (Act.put a (some s) v) w → Q (.panic c) a w := by exact fun _ _ _ h => h) (hw : Region.wanted ⟨some s, op, ty, pos, af, gd⟩ (yielded ops tmps) = true := by rfl) (hS : S w := by assumption) : wpAnyH P md ops Q S (fuel + 1) listed ⟨tmps, df⟩ w :=
  wpAnyH_take hi hs hf hr hQ (Or.inl ⟨hw, hy⟩) hS h
theorem tku {P : Program} {ops : Array Oper} {Q : Exit → Act → World → Prop} {md : Region.Mode} {S : World → Prop} (i s : Nat) {op : Op} {ty : TypeId} {pos : String} {af : Array Edge} {gd : Option (Nat × Bool)} {fuel : Nat} {listed : Array Bool} {tmps : Array Value} {df : List Deferred} {w : World} (hi : ops[i]? = some ⟨some s, op, ty, pos, af, gd⟩)
    (h : wpAnyH P md ops Q S fuel (listed.setIfInBounds i true) ⟨tmps.setIfInBounds s undef, df⟩ w)
    (hs : Region.noSelect ops = true := by kernel_rfl) (hf : Region.free md ops listed i = true := by kernel_rfl) (hr : (Region.ready md ops listed).contains i = true := by kernel_rfl) (hQ : ∀ c a w, Q (.panic c) (Act.put a (some s) undef) w → Q (.panic c) a w := by exact fun _ _ _ h => h) (hw : Region.wanted ⟨some s, op, ty, pos, af, gd⟩ (yielded ops tmps) = false := by rfl) (hS : S w := by assumption) : wpAnyH P md ops Q S (fuel + 1) listed ⟨tmps, df⟩ w :=
  wpAnyH_take hi hs hf hr hQ (Or.inr ⟨hw, rfl⟩) hS h
theorem tkb {P : Program} {ops : Array Oper} {Q : Exit → Act → World → Prop} {md : Region.Mode} {S : World → Prop} (i s : Nat) {op : Op} {ty : TypeId} {pos : String} {af : Array Edge} {gd : Option (Nat × Bool)} {v : Value} {fuel : Nat} {listed : Array Bool} {tmps : Array Value} {df : List Deferred} {w : World} (hi : ops[i]? = some ⟨some s, op, ty, pos, af, gd⟩)
    (h : wpAnyH P md ops Q S fuel (listed.setIfInBounds i true) ⟨tmps.setIfInBounds s v, df⟩ w)
    (hy : ∀ w', S w' → (execOp (Act.eval ⟨tmps, df⟩) ⟨some s, op, ty, pos, af, gd⟩).run P w' = .ok (.value v) w' := by (intro w h; (try dsimp only at h); go_simp; first | with_reducible rfl | (rw [if_neg (by omega)]; try with_reducible rfl))) (hs : Region.noSelect ops = true := by kernel_rfl) (hf : Region.free md ops listed i = true := by kernel_rfl) (hr : (Region.ready md ops listed).contains i = true := by kernel_rfl) (hQ : ∀ c a w, Q (.panic c) (Act.put a (some s) v) w → Q (.panic c) a w := by exact fun _ _ _ h => h) (hw : Region.wanted ⟨some s, op, ty, pos, af, gd⟩ (yielded ops tmps) = true := by rfl) (hS : S w := by assumption) : wpAnyH P md ops Q S (fuel + 1) listed ⟨tmps, df⟩ w :=
  wpAnyH_take hi hs hf hr hQ (Or.inl ⟨hw, hy⟩) hS h
end Go.Proofs.YtndgajlidckcdaaGreatDoor
