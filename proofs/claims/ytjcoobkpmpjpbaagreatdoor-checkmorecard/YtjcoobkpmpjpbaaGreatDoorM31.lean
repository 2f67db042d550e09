/-
  A text with another one behind it: lists, statements and values.
  A text with another one behind it: values, depth, and the program.
  A text with another one behind it: the program.
  A text with another one behind it: the tokens of the other one.
  A text with another one behind it: a function and a class of two names.
  A text with another one behind it: what is read.
-/
import Derived.Test.YtjcoobkpmpjpbaaGreatDoorM30
namespace Go.Proofs.YtjcoobkpmpjpbaaGreatDoor
open Go.RowKit
set_option linter.unusedVariables false

/-- At a token that is there. -/
def SfK {α : Type} (P : LS → Res α) : Prop := ∀ S S', Ok S → Sx S S' → S.kd ≠ 0 → ∀ a T, P S = .inr (a, T) → Ok T ∧ ∃ T', P S' = .inr (a, T') ∧ SxR T T'
theorem SfP.ofK {α : Type} {P : LS → Res α} (hg : Good P) (h : SfK P) : SfP P := by
  intro S S' ok hr a T e
  rcases hr with hr | hr
  · exact h S S' ok hr.1 hr.2 a T e
  · exact (end_tp ok T (hg S a T ok e) hr.kd0 hr.tp0).elim
theorem SfP.k {α : Type} {P : LS → Res α} (h : SfP P) : SfK P := fun S S' ok hx hk => h S S' ok (Or.inl ⟨hx, hk⟩)


theorem params_sf : SfP paramsP := SfP.ofK paramsP_good (by
  (intro S S' ok h hk; have hr : SxR S S' := Or.inl ⟨h, hk⟩)
  unfold paramsP
  rw [h.tl]
  (refine bnd_sf (want_sf (m := tOpen) (by kernel_rfl) _ _ ok hr) ?_; intro _ S S' ok hr)
  (refine bnd_sf ((listed_sf (shut := tShut) (by kernel_rfl) param_sf) _ _ ok hr) ?_; intro _ S S' ok hr)
  exact inr_sf ok hr)

structure LowSf (L : Low) : Prop where
  g : LowGood L
  v : SfP L.V
  s : SfP L.S
  n : SfP L.N

theorem block_sf {L : Low} (hL : LowSf L) : SfP (blockP L) := SfP.ofK (blockP_good hL.g) (by
  (intro S S' ok h hk; have hr : SxR S S' := Or.inl ⟨h, hk⟩)
  unfold blockP
  rw [h.tl]
  (refine bnd_sf (want_sf (m := tLeft) (by kernel_rfl) _ _ ok hr) ?_; intro _ S S' ok hr)
  (refine bnd_sf ((until_sf (shut := tRight) (by kernel_rfl) hL.s 3002 []) _ _ ok hr) ?_; intro _ S S' ok hr)
  exact inr_sf ok hr)
theorem body_sf {L : Low} (hL : LowSf L) : SfP (bodyP L) := SfP.ofK (bodyP_good hL.g) (by
  (intro S S' ok h hk; have hr : SxR S S' := Or.inl ⟨h, hk⟩)
  unfold bodyP
  (refine bnd_sf (params_sf _ _ ok hr) ?_; intro _ S S' ok hr)
  (refine bnd_sf ((block_sf hL) _ _ ok hr) ?_; intro _ S S' ok hr)
  exact inr_sf ok hr)
theorem inPar_sf {L : Low} (hL : LowSf L) : SfP (inParP L) := SfP.ofK (inParP_good hL.g) (by
  (intro S S' ok h hk; have hr : SxR S S' := Or.inl ⟨h, hk⟩)
  unfold inParP
  (refine bnd_sf (want_sf (m := tOpen) (by kernel_rfl) _ _ ok hr) ?_; intro _ S S' ok hr)
  (refine bnd_sf (hL.v _ _ ok hr) ?_; intro _ S S' ok hr)
  (refine bnd_sf (want_sf (m := tShut) (by kernel_rfl) _ _ ok hr) ?_; intro _ S S' ok hr)
  exact inr_sf ok hr)
theorem args_sf {L : Low} (hL : LowSf L) : SfP (argsP L) := listed_sf (shut := tShut) (by kernel_rfl) hL.v
theorem method_sf {L : Low} (hL : LowSf L) : SfP (methodP L) := SfP.ofK (methodP_good hL.g) (by
  (intro S S' ok h hk; have hr : SxR S S' := Or.inl ⟨h, hk⟩)
  unfold methodP
  rw [h.tl]
  (refine bnd_sf (name_sf _ _ ok hr) ?_; intro _ S S' ok hr)
  (refine bnd_sf ((body_sf hL) _ _ ok hr) ?_; intro _ S S' ok hr)
  exact inr_sf ok hr)
theorem fn_sf {L : Low} (hL : LowSf L) : SfK (fnP L) := by
  (intro S S' ok h hk; have hr : SxR S S' := Or.inl ⟨h, hk⟩)
  unfold fnP
  rw [h.tl]
  (refine bnd_sf (take_sf ok h) ?_; intro _ S S' ok hr)
  (refine bnd_sf (name_sf _ _ ok hr) ?_; intro _ S S' ok hr)
  (refine bnd_sf ((body_sf hL) _ _ ok hr) ?_; intro _ S S' ok hr)
  exact inr_sf ok hr
theorem lambda_sf {L : Low} (hL : LowSf L) : SfK (lambdaP L) := by
  (intro S S' ok h hk; have hr : SxR S S' := Or.inl ⟨h, hk⟩)
  unfold lambdaP
  rw [h.tl]
  (refine bnd_sf (take_sf ok h) ?_; intro _ S S' ok hr)
  (refine bnd_sf ((body_sf hL) _ _ ok hr) ?_; intro _ S S' ok hr)
  exact inr_sf ok hr
theorem field_sf (n : Nat) : SfK (fieldP n) := by
  (intro S S' ok h hk; have hr : SxR S S' := Or.inl ⟨h, hk⟩)
  unfold fieldP
  rw [h.tl]
  (refine bnd_sf (take_sf ok h) ?_; intro _ S S' ok hr)
  (refine bnd_sf ((limit_sf n) _ _ ok hr) ?_; intro _ S S' ok hr)
  (refine bnd_sf (name_sf _ _ ok hr) ?_; intro _ S S' ok hr)
  (refine bnd_sf (want_sf (m := tSemi) (by kernel_rfl) _ _ ok hr) ?_; intro _ S S' ok hr)
  exact inr_sf ok hr
theorem fields_sf : ∀ (f : Nat) (acc : List Tree), SfP (fieldsP f acc)
  | 0, acc => fun S S' ok h a T e => by cases e
  | f + 1, acc => fun S S' ok hr => by
    rw [fieldsP, fieldsP]
    refine ite_sf (hr.iff (m := wField) (by kernel_rfl)) (fun hb => ?_) fun _ => inr_sf ok hr
    refine bnd_sf (field_sf acc.length _ _ ok (hr.some (is_kd hb)) (is_kd hb)) ?_
    intro _ S S' ok hr
    exact fields_sf f _ S S' ok hr
theorem under_sf : SfP underP := by
  intro S S' ok hr
  unfold underP
  (refine bnd_sf (accept_sf (m := tLess) (by kernel_rfl) _ _ ok hr) ?_; intro _ S S' ok hr)
  exact ite_sf Iff.rfl (fun _ => name_sf _ _ ok hr) fun _ => inr_sf ok hr
theorem class_sf {L : Low} (hL : LowSf L) : SfK (classP L) := by
  (intro S S' ok h hk; have hr : SxR S S' := Or.inl ⟨h, hk⟩)
  unfold classP
  rw [h.tl]
  (refine bnd_sf (take_sf ok h) ?_; intro _ S S' ok hr)
  (refine bnd_sf (name_sf _ _ ok hr) ?_; intro _ S S' ok hr)
  (refine bnd_sf (under_sf _ _ ok hr) ?_; intro _ S S' ok hr)
  (refine bnd_sf (want_sf (m := tLeft) (by kernel_rfl) _ _ ok hr) ?_; intro _ S S' ok hr)
  (refine bnd_sf ((fields_sf 10 []) _ _ ok hr) ?_; intro _ S S' ok hr)
  (refine bnd_sf ((until_sf (shut := tRight) (by kernel_rfl) (method_sf hL) 3002 _) _ _ ok hr) ?_; intro _ S S' ok hr)
  exact inr_sf ok hr
theorem outermost_sf {L : Low} (hL : LowSf L) : SfK (outermostP L) := by
  (intro S S' ok h hk; have hr : SxR S S' := Or.inl ⟨h, hk⟩)
  unfold outermostP
  exact ite_sf (h.iff wClass) (fun _ => class_sf hL S S' ok h hk) fun _ => ite_sf (h.iff wFn) (fun _ => fn_sf hL S S' ok h hk) fun _ => hL.s S S' ok hr
theorem close_sf {P : LS → Res Tree} (hP : SfP P) : SfP (closeP P) := by
  intro S S' ok hr
  unfold closeP
  (refine bnd_sf (hP _ _ ok hr) ?_; intro _ S S' ok hr)
  (refine bnd_sf (want_sf (m := tSemi) (by kernel_rfl) _ _ ok hr) ?_; intro _ S S' ok hr)
  exact inr_sf ok hr
theorem variable_sf {L : Low} (hL : LowSf L) : SfK (variableP L) := by
  (intro S S' ok h hk; have hr : SxR S S' := Or.inl ⟨h, hk⟩)
  unfold variableP
  rw [h.tl]
  (refine bnd_sf (take_sf ok h) ?_; intro _ S S' ok hr)
  (refine bnd_sf (name_sf _ _ ok hr) ?_; intro _ S S' ok hr)
  (refine bnd_sf (want_sf (m := tEqual) (by kernel_rfl) _ _ ok hr) ?_; intro _ S S' ok hr)
  (refine bnd_sf ((close_sf hL.v) _ _ ok hr) ?_; intro _ S S' ok hr)
  exact inr_sf ok hr
theorem guarded_sf {L : Low} (hL : LowSf L) (k : Nat) : SfK (guardedP L k) := by
  (intro S S' ok h hk; have hr : SxR S S' := Or.inl ⟨h, hk⟩)
  unfold guardedP
  rw [h.tl]
  (refine bnd_sf (take_sf ok h) ?_; intro _ S S' ok hr)
  (refine bnd_sf ((inPar_sf hL) _ _ ok hr) ?_; intro _ S S' ok hr)
  (refine bnd_sf ((block_sf hL) _ _ ok hr) ?_; intro _ S S' ok hr)
  exact inr_sf ok hr
theorem choice_sf {L : Low} (hL : LowSf L) : SfK (choiceP L) := by
  (intro S S' ok h hk; have hr : SxR S S' := Or.inl ⟨h, hk⟩)
  unfold choiceP
  refine bnd_sf (guarded_sf hL 10 _ _ ok h hk) ?_
  intro t S S' ok hr
  (refine bnd_sf (accept_sf (m := wElse) (by kernel_rfl) _ _ ok hr) ?_; intro _ S S' ok hr)
  refine ite_sf Iff.rfl (fun _ => ?_) fun _ => inr_sf ok hr
  (refine bnd_sf ((block_sf hL) _ _ ok hr) ?_; intro _ S S' ok hr)
  exact inr_sf ok hr
theorem returned_sf {L : Low} (hL : LowSf L) : SfK (returnedP L) := by
  (intro S S' ok h hk; have hr : SxR S S' := Or.inl ⟨h, hk⟩)
  unfold returnedP
  rw [h.tl]
  (refine bnd_sf (take_sf ok h) ?_; intro _ S S' ok hr)
  (refine bnd_sf (accept_sf (m := tSemi) (by kernel_rfl) _ _ ok hr) ?_; intro _ S S' ok hr)
  refine ite_sf Iff.rfl (fun _ => inr_sf ok hr) fun _ => ?_
  (refine bnd_sf ((close_sf hL.v) _ _ ok hr) ?_; intro _ S S' ok hr)
  exact inr_sf ok hr
theorem endP_sf {k : Nat} {P : LS → Res Tree} (hP : SfP P) : SfK (endP k P) := by
  (intro S S' ok h hk; have hr : SxR S S' := Or.inl ⟨h, hk⟩)
  unfold endP
  rw [h.tl]
  (refine bnd_sf (take_sf ok h) ?_; intro _ S S' ok hr)
  (refine bnd_sf ((close_sf hP) _ _ ok hr) ?_; intro _ S S' ok hr)
  exact inr_sf ok hr
theorem catch_sf {L : Low} (hL : LowSf L) : SfP (catchP L) := SfP.ofK (catchP_good hL.g) (by
  (intro S S' ok h hk; have hr : SxR S S' := Or.inl ⟨h, hk⟩)
  unfold catchP
  rw [h.tl]
  (refine bnd_sf (want_sf (m := wCatch) (by kernel_rfl) _ _ ok hr) ?_; intro _ S S' ok hr)
  (refine bnd_sf (want_sf (m := tOpen) (by kernel_rfl) _ _ ok hr) ?_; intro _ S S' ok hr)
  (refine bnd_sf (name_sf _ _ ok hr) ?_; intro _ S S' ok hr)
  (refine bnd_sf (want_sf (m := tShut) (by kernel_rfl) _ _ ok hr) ?_; intro _ S S' ok hr)
  (refine bnd_sf ((block_sf hL) _ _ ok hr) ?_; intro _ S S' ok hr)
  exact inr_sf ok hr)
theorem try_sf {L : Low} (hL : LowSf L) : SfK (tryP L) := by
  (intro S S' ok h hk; have hr : SxR S S' := Or.inl ⟨h, hk⟩)
  unfold tryP
  rw [h.tl]
  (refine bnd_sf (take_sf ok h) ?_; intro _ S S' ok hr)
  (refine bnd_sf ((block_sf hL) _ _ ok hr) ?_; intro _ S S' ok hr)
  (refine bnd_sf ((catch_sf hL) _ _ ok hr) ?_; intro _ S S' ok hr)
  exact inr_sf ok hr
theorem bare_sf {L : Low} (hL : LowSf L) : SfK (bareP L) := by
  (intro S S' ok h hk; have hr : SxR S S' := Or.inl ⟨h, hk⟩)
  unfold bareP
  rw [h.tl]
  (refine bnd_sf (hL.v _ _ ok hr) ?_; intro _ S S' ok hr)
  refine ite_sf (hr.iff (m := tEqual) (by kernel_rfl)) (fun hb => ?_) fun _ => ?_
  · refine ite_sf Iff.rfl (fun _ => ?_) fun _ => inl_sf
    refine bnd_sf (take_sf ok (hr.some (is_kd hb))) ?_
    intro _ S S' ok hr
    (refine bnd_sf (hL.v _ _ ok hr) ?_; intro _ S S' ok hr)
    (refine bnd_sf (want_sf (m := tSemi) (by kernel_rfl) _ _ ok hr) ?_; intro _ S S' ok hr)
    exact inr_sf ok hr
  · (refine bnd_sf (want_sf (m := tSemi) (by kernel_rfl) _ _ ok hr) ?_; intro _ S S' ok hr)
    exact inr_sf ok hr
theorem any_sf {L : Low} (hL : LowSf L) : SfP (anyP L) := SfP.ofK (anyP_good hL.g) (by
  (intro S S' ok h hk; have hr : SxR S S' := Or.inl ⟨h, hk⟩)
  unfold anyP
  exact ite_sf (h.iff wVar) (fun _ => variable_sf hL S S' ok h hk) fun _ => ite_sf (h.iff wIf) (fun _ => choice_sf hL S S' ok h hk) fun _ => ite_sf (h.iff wWhile) (fun _ => guarded_sf hL 11 S S' ok h hk) fun _ => ite_sf (h.iff wReturn) (fun _ => returned_sf hL S S' ok h hk) fun _ =>
    ite_sf (h.iff wThrow) (fun _ => endP_sf hL.v S S' ok h hk) fun _ => ite_sf (h.iff wPrint) (fun _ => endP_sf (inPar_sf hL) S S' ok h hk) fun _ => ite_sf (h.iff wTry) (fun _ => try_sf hL S S' ok h hk) fun _ => bare_sf hL S S' ok h hk)
end Go.Proofs.YtjcoobkpmpjpbaaGreatDoor

namespace Go.Proofs.YtjcoobkpmpjpbaaGreatDoor
open Go.RowKit
set_option linter.unusedVariables false

theorem signRows_fn : ∀ s ∈ signRows, (wFn.toList == s.1.toList) = false := by
  intro s hs
  simp only [signRows, List.mem_cons, List.not_mem_nil, or_false] at hs
  rcases hs with rfl | rfl | rfl | rfl | rfl | rfl | rfl | rfl | rfl <;> kernel_rfl
theorem find_congr {α : Type} {p q : α → Bool} : ∀ (l : List α), (∀ x ∈ l, p x = q x) → l.find? p = l.find? q
  | [], _ => rfl
  | x :: l, h => by
    rw [List.find?_cons, List.find?_cons, h x (List.mem_cons_self ..), find_congr l fun y hy => h y (List.mem_cons_of_mem _ hy)]
theorem joiner_sf {S S' : LS} (h : SxR S S') (lev : Nat) : joinerP lev S' = joinerP lev S := by
  unfold joinerP
  rw [find_congr signRows (p := fun s => s.2.2 == lev && S'.is s.1) (q := fun s => s.2.2 == lev && S.is s.1) fun s hs => by
    show (s.2.2 == lev && S'.is s.1) = (s.2.2 == lev && S.is s.1)
    rw [h.is (signRows_fn s hs)]]
theorem joinLoop_sf (lev : Nat) {P : LS → Res Tree} (hP : SfP P) : ∀ (f : Nat) (t : Tree), SfP (joinLoop lev P f t)
  | 0, t => fun S S' ok h a T e => by cases e
  | f + 1, t => fun S S' ok hr => by
    rw [joinLoop, joinLoop, joiner_sf hr]
    refine ite_sf Iff.rfl (fun _ => inr_sf ok hr) fun hb => ?_
    refine bnd_sf (take_sf ok (hr.some (joiner_kd hb))) ?_
    intro _ S1 S1' ok hr
    (refine bnd_sf (hP _ _ ok hr) ?_; intro _ S S' ok hr)
    exact joinLoop_sf lev hP f _ _ _ ok hr
theorem join_sf (lev : Nat) {P : LS → Res Tree} (hP : SfP P) : SfP (joinP lev P) := by
  intro S S' ok hr
  unfold joinP
  (refine bnd_sf (hP _ _ ok hr) ?_; intro _ S S' ok hr)
  exact joinLoop_sf lev hP 3002 _ _ _ ok hr
theorem jo_sf {P : LS → Res Tree} (hP : SfP P) : ∀ n, SfP (jo P n)
  | 0 => hP
  | n + 1 => join_sf (6 - n) (jo_sf hP n)
theorem member_sf {L : Low} (hL : LowSf L) (t : Tree) : SfP (memberP L t) := by
  intro S S' ok hr
  unfold memberP
  (refine bnd_sf (name_sf _ _ ok hr) ?_; intro _ S S' ok hr)
  (refine bnd_sf (accept_sf (m := tOpen) (by kernel_rfl) _ _ ok hr) ?_; intro _ S S' ok hr)
  refine ite_sf Iff.rfl (fun _ => ?_) fun _ => inr_sf ok hr
  (refine bnd_sf ((args_sf hL) _ _ ok hr) ?_; intro _ S S' ok hr)
  exact inr_sf ok hr
theorem sufLoop_sf {L : Low} (hL : LowSf L) : ∀ (f : Nat) (t : Tree), SfP (sufLoop L f t)
  | 0, t => fun S S' ok h a T e => by cases e
  | f + 1, t => fun S S' ok hr => by
    rw [sufLoop, sufLoop]
    (refine bnd_sf (accept_sf (m := tDot) (by kernel_rfl) _ _ ok hr) ?_; intro _ S S' ok hr)
    refine ite_sf Iff.rfl (fun _ => ?_) fun _ => ?_
    · (refine bnd_sf ((member_sf hL t) _ _ ok hr) ?_; intro _ S S' ok hr)
      exact sufLoop_sf hL f _ _ _ ok hr
    (refine bnd_sf (accept_sf (m := tSquare) (by kernel_rfl) _ _ ok hr) ?_; intro _ S S' ok hr)
    refine ite_sf Iff.rfl (fun _ => ?_) fun _ => ?_
    · (refine bnd_sf (hL.v _ _ ok hr) ?_; intro _ S S' ok hr)
      (refine bnd_sf (want_sf (m := tSquared) (by kernel_rfl) _ _ ok hr) ?_; intro _ S S' ok hr)
      exact sufLoop_sf hL f _ _ _ ok hr
    (refine bnd_sf (accept_sf (m := tOpen) (by kernel_rfl) _ _ ok hr) ?_; intro _ S S' ok hr)
    refine ite_sf Iff.rfl (fun _ => ?_) fun _ => inr_sf ok hr
    (refine bnd_sf ((args_sf hL) _ _ ok hr) ?_; intro _ S S' ok hr)
    exact sufLoop_sf hL f _ _ _ ok hr
theorem const_sf {S S' : LS} (h : Sx S S') : constP S' = constP S := by
  unfold constP
  rw [h.is, h.is, h.is, h.is]
theorem named_sf {L : Low} (hL : LowSf L) (k ln : Nat) : SfP (namedP L k ln) := by
  intro S S' ok hr
  unfold namedP
  (refine bnd_sf (name_sf _ _ ok hr) ?_; intro _ S S' ok hr)
  (refine bnd_sf (want_sf (m := tOpen) (by kernel_rfl) _ _ ok hr) ?_; intro _ S S' ok hr)
  (refine bnd_sf ((args_sf hL) _ _ ok hr) ?_; intro _ S S' ok hr)
  exact inr_sf ok hr
theorem marked_sf {L : Low} (hL : LowSf L) : SfK (markedP L) := by
  (intro S S' ok h hk; have hr : SxR S S' := Or.inl ⟨h, hk⟩)
  unfold markedP
  rw [h.tl]
  refine ite_sf (h.iff tOpen) (fun _ => inPar_sf hL S S' ok hr) fun _ => ?_
  refine ite_sf (h.iff tSquare) (fun _ => ?_) fun _ => ?_
  · (refine bnd_sf (take_sf ok h) ?_; intro _ S S' ok hr)
    (refine bnd_sf ((listed_sf (shut := tSquared) (by kernel_rfl) hL.v) _ _ ok hr) ?_; intro _ S S' ok hr)
    exact inr_sf ok hr
  refine ite_sf (h.iff wFn) (fun _ => lambda_sf hL S S' ok h hk) fun _ => ?_
  refine ite_sf (h.iff wNew) (fun _ => ?_) fun _ => ?_
  · (refine bnd_sf (take_sf ok h) ?_; intro _ S S' ok hr)
    exact named_sf hL 25 _ _ _ ok hr
  refine ite_sf (h.iff wSuper) (fun _ => ?_) fun _ => ?_
  · (refine bnd_sf (take_sf ok h) ?_; intro _ S S' ok hr)
    (refine bnd_sf (want_sf (m := tDot) (by kernel_rfl) _ _ ok hr) ?_; intro _ S S' ok hr)
    exact named_sf hL 26 _ _ _ ok hr
  refine ite_sf (h.iff wInput) (fun _ => ?_) fun _ => ?_
  · (refine bnd_sf (take_sf ok h) ?_; intro _ S S' ok hr)
    (refine bnd_sf (want_sf (m := tOpen) (by kernel_rfl) _ _ ok hr) ?_; intro _ S S' ok hr)
    (refine bnd_sf (want_sf (m := tShut) (by kernel_rfl) _ _ ok hr) ?_; intro _ S S' ok hr)
    exact inr_sf ok hr
  refine ite_sf (h.iff wLen) (fun _ => ?_) fun _ => inl_sf
  (refine bnd_sf (take_sf ok h) ?_; intro _ S S' ok hr)
  (refine bnd_sf ((inPar_sf hL) _ _ ok hr) ?_; intro _ S S' ok hr)
  exact inr_sf ok hr
theorem simple_sf {L : Low} (hL : LowSf L) : SfP (simpleP L) := SfP.ofK (simpleP_good hL.g) (by
  (intro S S' ok h hk; have hr : SxR S S' := Or.inl ⟨h, hk⟩)
  unfold simpleP
  rw [const_sf h]
  exact ite_sf (by rw [h.kd]) (fun _ => leaf_sf 24 S S' ok h) fun _ => ite_sf (by rw [h.kd]) (fun _ => leaf_sf 18 S S' ok h) fun _ => ite_sf (by rw [h.kd]) (fun _ => leaf_sf 19 S S' ok h) fun _ =>
    ite_sf Iff.rfl (fun _ => marked_sf hL S S' ok h hk) fun _ => leaf_sf (constP S) S S' ok h)
theorem suffixed_sf {L : Low} (hL : LowSf L) : SfP (suffixedP L) := by
  intro S S' ok hr
  unfold suffixedP
  (refine bnd_sf ((simple_sf hL) _ _ ok hr) ?_; intro _ S S' ok hr)
  exact sufLoop_sf hL 3002 _ _ _ ok hr
theorem signed_sf {L : Low} (hL : LowSf L) (k : Nat) : SfK (signedP L k) := by
  (intro S S' ok h hk; have hr : SxR S S' := Or.inl ⟨h, hk⟩)
  unfold signedP
  rw [h.tl]
  (refine bnd_sf (take_sf ok h) ?_; intro _ S S' ok hr)
  (refine bnd_sf (hL.n _ _ ok hr) ?_; intro _ S S' ok hr)
  exact inr_sf ok hr
theorem prefixed_sf {L : Low} (hL : LowSf L) : SfP (prefixedP L) := SfP.ofK (prefixedP_good hL.g) (by
  (intro S S' ok h hk; have hr : SxR S S' := Or.inl ⟨h, hk⟩)
  unfold prefixedP
  exact ite_sf (h.iff tNot) (fun _ => signed_sf hL 41 S S' ok h hk) fun _ => ite_sf (h.iff tMinus) (fun _ => signed_sf hL 40 S S' ok h hk) fun _ => suffixed_sf hL S S' ok hr)

theorem Ok.deep {S : LS} (h : Ok S) (d : Nat) : Ok { S with dp := d } := ⟨⟨h.fit.size, h.fit.pl, h.fit.ln⟩, h.tp, h.tl, h.now⟩
theorem SxR.dp {S S' : LS} (h : SxR S S') : S'.dp = S.dp := by
  rcases h with h | h
  · exact h.1.dp
  · exact h.dp
theorem SxR.deep {S S' : LS} (h : SxR S S') {d d' : Nat} (hd : d' = d) : SxR { S with dp := d } { S' with dp := d' } := by
  rcases h with h | h
  · exact Or.inl ⟨⟨h.1.src, h.1.pl, h.1.ln, h.1.kd, h.1.tp, h.1.tl, h.1.mrk, h.1.tx, h.1.nn, hd, h.1.fnx⟩, h.2⟩
  · exact Or.inr ⟨h.kd0, h.tp0, h.fit, h.kd, h.mrk, hd, h.pl, h.ln, h.tl⟩
theorem deep_sf {P : LS → Res Tree} (hP : SfP P) : SfP (deepP P) := by
  intro S S' ok hr
  unfold deepP
  refine ite_sf (by rw [hr.dp]) (fun _ => inl_sf) fun _ => ?_
  refine bnd_sf (hP _ _ (ok.deep (S.dp + 1)) (hr.deep (by rw [hr.dp]))) ?_
  intro _ T T' ok hr
  exact inr_sf (ok.deep _) (hr.deep (by rw [hr.dp]))
theorem lower_sf : ∀ d, LowSf (lower d)
  | 0 => ⟨lower_good 0, fun _ _ _ _ _ _ e => (by cases e), fun _ _ _ _ _ _ e => (by cases e), fun _ _ _ _ _ _ e => (by cases e)⟩
  | d + 1 => ⟨lower_good (d + 1), deep_sf (jo_sf (prefixed_sf (lower_sf d)) 6), deep_sf (any_sf (lower_sf d)), deep_sf (prefixed_sf (lower_sf d))⟩
end Go.Proofs.YtjcoobkpmpjpbaaGreatDoor

namespace Go.Proofs.YtjcoobkpmpjpbaaGreatDoor
open Go.RowKit
set_option linter.unusedVariables false

/-- What the shorter text holds is read; then the longer one goes on, with as many rounds left. -/
theorem progLoop_sf {L : Low} (hL : LowSf L) : ∀ (f : Nat) (acc : List Tree) (S S' : LS), Ok S → SxR S S' → ∀ ks T, progLoop L f acc S = .inr (ks, T) →
    Ok T ∧ T.src = S.src ∧ ∃ T' j, SxE T T' ∧ f = j + (ks.length - acc.length) ∧ acc.length ≤ ks.length ∧ ks.length - acc.length ≤ T.tp - S.tp ∧ S.tp ≤ T.tp ∧ progLoop L f acc S' = progLoop L j ks T'
  | 0, acc, S, S', ok, hr, ks, T, e => by cases e
  | f + 1, acc, S, S', ok, hr, ks, T, e => by
    rw [progLoop] at e
    by_cases hk : S.kd = 0
    · rw [if_pos hk] at e
      cases e
      rcases hr with hr | hr
      · exact absurd hk hr.2
      · exact ⟨ok, rfl, S', f + 1, hr, by omega, Nat.le_refl _, by omega, Nat.le_refl _, rfl⟩
    · rw [if_neg hk] at e
      obtain ⟨t, S1, h1, h2⟩ := bnd_some e
      have hx := hr.some hk
      have on := outermostP_good hL.g _ _ _ ok h1
      obtain ⟨ok1, S1', h3, hr1⟩ := outermost_sf hL S S' ok hx hk t S1 h1
      obtain ⟨okT, hs, T', j, hE, hf, hl, hn, ht, hp⟩ := progLoop_sf hL f (acc ++ [t]) S1 S1' ok1 hr1 ks T h2
      have ho := on.tp
      have hs1 := on.same.src
      rw [List.length_append, List.length_singleton] at hf hl hn
      refine ⟨okT, hs.trans hs1, T', j, hE, by omega, by omega, by omega, by omega, ?_⟩
      rw [progLoop, if_neg (by rw [hx.kd]; exact hk), bnd_inr h3]
      exact hp
end Go.Proofs.YtjcoobkpmpjpbaaGreatDoor

namespace Go.Proofs.YtjcoobkpmpjpbaaGreatDoor
open Go.RowKit
set_option linter.unusedVariables false

theorem tail_get (s x : ByteArray) (p : Nat) (h : p < x.size) (h' : s.size + p < (s ++ x).size) : (s ++ x)[s.size + p] = x[p] := by
  rw [ByteArray.getElem_append_right (by omega)]
  congr 1
  omega
theorem skip_tail (s x : ByteArray) : ∀ (f p l : Nat), skipP (s ++ x) f (s.size + p) l = (s.size + (skipP x f p l).1, (skipP x f p l).2)
  | 0, p, l => rfl
  | f + 1, p, l => by
    have hz : (s ++ x).size = s.size + x.size := ByteArray.size_append
    rw [skipP, skipP]
    by_cases hp : p < x.size
    · rw [dif_pos (show s.size + p < (s ++ x).size by omega), dif_pos hp, tail_get s x p hp]
      split
      · exact skip_tail s x f (p + 1) (l + 1)
      · split
        · exact skip_tail s x f (p + 1) l
        · rfl
    · rw [dif_neg (show ¬ s.size + p < (s ++ x).size by omega), dif_neg hp]
theorem run_tail (s x : ByteArray) (B : Int → Bool) : ∀ (f p : Nat), runP (s ++ x) B f (s.size + p) = s.size + runP x B f p
  | 0, p => rfl
  | f + 1, p => by
    have hz : (s ++ x).size = s.size + x.size := ByteArray.size_append
    rw [runP, runP]
    by_cases hp : p < x.size
    · rw [dif_pos (show s.size + p < (s ++ x).size by omega), dif_pos hp, tail_get s x p hp]
      split
      · exact run_tail s x B f (p + 1)
      · rfl
    · rw [dif_neg (show ¬ s.size + p < (s ++ x).size by omega), dif_neg hp]
theorem extract_tail (s x : ByteArray) (a b : Nat) : (s ++ x).extract (s.size + a) (s.size + b) = x.extract a b := ByteArray.extract_append_size_add
theorem sign_tail (s x : ByteArray) (p : Nat) : signP (s ++ x) (s.size + p) = signP x p := by
  have hz : (s ++ x).size = s.size + x.size := ByteArray.size_append
  have ht : ∀ k, isTwin (s ++ x) (s.size + p) k = isTwin x p k := fun k => by
    unfold isTwin
    rw [hz, extract_tail]
  unfold signP
  rw [ht, ht, ht]
  by_cases hp : p < x.size
  · rw [dif_pos (show s.size + p < (s ++ x).size by omega), dif_pos hp, tail_get s x p hp]
  · rw [dif_neg (show ¬ s.size + p < (s ++ x).size by omega), dif_neg hp]
theorem byteAt_tail (s x : ByteArray) (p : Nat) (hp : p < x.size) : byteAt (s ++ x) (s.size + p) = byteAt x p := by
  have hz : (s ++ x).size = s.size + x.size := ByteArray.size_append
  unfold byteAt
  rw [dif_pos (show s.size + p < (s ++ x).size by omega), dif_pos hp, tail_get s x p hp]

set_option linter.unusedSectionVars false
section
variable {V : LS} {s x : ByteArray} (hs : V.src = s ++ x) {p q : Nat} (hp : V.pl = s.size + p) (hk : ∀ l, skipP x (x.size - p) p l = (q, l))
include hs hp hk
theorem tail_skip : skipP V.src (V.src.size - V.pl) V.pl V.ln = (s.size + q, V.ln) := by
  rw [hs, hp, ByteArray.size_append, show s.size + x.size - (s.size + p) = x.size - p by omega, skip_tail, hk]
theorem tail_end (hq : ¬ q < x.size) : advP V = .inr (V.fresh (s.size + q) V.ln) := by
  rw [advP, tail_skip hs hp hk]
  exact advS_end (by show ¬ s.size + q < V.src.size; rw [hs, ByteArray.size_append]; omega)
theorem tail_wordEnd : wordEnd (V.fresh (s.size + q) V.ln) = s.size + runP x nb (x.size - q) q := by
  show runP V.src nb (V.src.size - (s.size + q)) (s.size + q) = _
  rw [hs, ByteArray.size_append, show s.size + x.size - (s.size + q) = x.size - q by omega, run_tail]
theorem tail_wordAt : wordAt (V.fresh (s.size + q) V.ln) = x.extract q (runP x nb (x.size - q) q) := by
  show V.src.extract (s.size + q) (wordEnd (V.fresh (s.size + q) V.ln)) = _
  rw [tail_wordEnd hs hp hk, hs, extract_tail]
theorem tail_word (hq : q < x.size) (h1 : lt (byteAt x q) = true) {e : Nat} (he : runP x nb (x.size - q) q = e) (h2 : isW (x.extract q e) = true) :
    advP V = .inr { V.fresh (s.size + q) V.ln with pl := s.size + e, kd := 1, mrk := x.extract q e } := by
  have a1 := tail_wordAt hs hp hk
  have a2 := tail_wordEnd hs hp hk
  rw [he] at a1 a2
  rw [advP, tail_skip hs hp hk]
  show advS (V.fresh (s.size + q) V.ln) = _
  rw [advS_word (by show s.size + q < V.src.size; rw [hs, ByteArray.size_append]; omega) (by show lt (byteAt V.src (s.size + q)) = true; rw [hs, byteAt_tail s x q hq]; exact h1) (by rw [a1]; exact h2), a1, a2]
theorem tail_name (hq : q < x.size) (h1 : lt (byteAt x q) = true) {e : Nat} (he : runP x nb (x.size - q) q = e) (h2 : isW (x.extract q e) = false) (h3 : (x.extract q e).size ≤ 16) :
    advP V = .inr { V.fresh (s.size + q) V.ln with pl := s.size + e, kd := 2, tx := x.extract q e } := by
  have a1 := tail_wordAt hs hp hk
  have a2 := tail_wordEnd hs hp hk
  rw [he] at a1 a2
  rw [advP, tail_skip hs hp hk]
  show advS (V.fresh (s.size + q) V.ln) = _
  rw [advS_name (by show s.size + q < V.src.size; rw [hs, ByteArray.size_append]; omega) (by show lt (byteAt V.src (s.size + q)) = true; rw [hs, byteAt_tail s x q hq]; exact h1) (by rw [a1]; exact h2) (by rw [a1]; exact h3), a1, a2]
theorem tail_sign (hq : q < x.size) (h1 : lt (byteAt x q) = false) (h2 : dg (byteAt x q) = false) (h3 : byteAt x q ≠ 34) (h4 : signP x q = 1) :
    advP V = .inr { V.fresh (s.size + q) V.ln with pl := s.size + (q + 1), kd := 1, mrk := x.extract q (q + 1) } := by
  rw [advP, tail_skip hs hp hk]
  show advS (V.fresh (s.size + q) V.ln) = _
  rw [advS_sign (S := V.fresh (s.size + q) V.ln) (n := 1) (by show s.size + q < V.src.size; rw [hs, ByteArray.size_append]; omega) (by show lt (byteAt V.src (s.size + q)) = false; rw [hs, byteAt_tail s x q hq]; exact h1)
    (by show dg (byteAt V.src (s.size + q)) = false; rw [hs, byteAt_tail s x q hq]; exact h2) (by show byteAt V.src (s.size + q) ≠ 34; rw [hs, byteAt_tail s x q hq]; exact h3) (by show signP V.src (s.size + q) = 1; rw [hs, sign_tail]; exact h4) (by decide)]
  show Sum.inr { V.fresh (s.size + q) V.ln with pl := s.size + q + 1, kd := 1, mrk := V.src.extract (s.size + q) (s.size + q + 1) } = _
  rw [hs, show s.size + q + 1 = s.size + (q + 1) by omega, extract_tail]
end
end Go.Proofs.YtjcoobkpmpjpbaaGreatDoor

namespace Go.Proofs.YtjcoobkpmpjpbaaGreatDoor
open Go.RowKit
set_option linter.unusedVariables false

def zzFn : ByteArray := ⟨#[122, 122, 57]⟩
def zzClass : ByteArray := ⟨#[90, 122, 57]⟩
/-- The reader at a token behind the shorter text. -/
def tkX (V : LS) (s : ByteArray) (l tp pl kd : Nat) (mrk tx : ByteArray) : LS := { V with pl := s.size + pl, ln := l, kd := kd, tp := s.size + tp, tl := l, mrk := mrk, tx := tx, nn := 0 }

theorem sfx_more (s : ByteArray) : Sfx s (s ++ more) := sfx_append s more (by decide) (fun _ => rfl) _ rfl
theorem fnx_more (s : ByteArray) : Fnx s (s ++ more) := ⟨sfx_more s, rfl, fun T hs hp => by
  have := tail_word (V := T) (s := s) (x := more) hs (p := 0) (q := 1) (by omega) (fun l => by kernel_rfl) (by decide) (by kernel_rfl) (e := 3) (by kernel_rfl) (by kernel_rfl)
  exact ⟨_, this, hs, rfl, rfl, rfl, rfl, rfl, rfl⟩⟩

section
variable {V : LS} {s : ByteArray} (hs : V.src = s ++ more)
include hs
theorem x0 (hp : V.pl = s.size + 3) : takeP V = .inr ((), tkX V s V.ln 4 7 2 ⟨#[]⟩ zzFn) := by
  rw [takeP, tail_name (V := V) (s := s) (x := more) hs (p := 3) (q := 4) hp (fun l => by kernel_rfl) (by decide) (by kernel_rfl) (e := 7) (by kernel_rfl) (by kernel_rfl) (by decide)]
  rfl
theorem x1 (l : Nat) : takeP (tkX V s l 4 7 2 ⟨#[]⟩ zzFn) = .inr ((), tkX V s l 7 8 1 tOpen ⟨#[]⟩) := by
  rw [takeP, tail_sign (V := tkX V s l 4 7 2 ⟨#[]⟩ zzFn) (s := s) (x := more) hs (p := 7) (q := 7) rfl (fun l => by kernel_rfl) (by decide) (by kernel_rfl) (by kernel_rfl) (by decide) (by kernel_rfl)]
  rfl
theorem x2 (l : Nat) : takeP (tkX V s l 7 8 1 tOpen ⟨#[]⟩) = .inr ((), tkX V s l 8 9 1 tShut ⟨#[]⟩) := by
  rw [takeP, tail_sign (V := tkX V s l 7 8 1 tOpen ⟨#[]⟩) (s := s) (x := more) hs (p := 8) (q := 8) rfl (fun l => by kernel_rfl) (by decide) (by kernel_rfl) (by kernel_rfl) (by decide) (by kernel_rfl)]
  rfl
theorem x3 (l : Nat) : takeP (tkX V s l 8 9 1 tShut ⟨#[]⟩) = .inr ((), tkX V s l 10 11 1 tLeft ⟨#[]⟩) := by
  rw [takeP, tail_sign (V := tkX V s l 8 9 1 tShut ⟨#[]⟩) (s := s) (x := more) hs (p := 9) (q := 10) rfl (fun l => by kernel_rfl) (by decide) (by kernel_rfl) (by kernel_rfl) (by decide) (by kernel_rfl)]
  rfl
theorem x4 (l : Nat) : takeP (tkX V s l 10 11 1 tLeft ⟨#[]⟩) = .inr ((), tkX V s l 11 12 1 tRight ⟨#[]⟩) := by
  rw [takeP, tail_sign (V := tkX V s l 10 11 1 tLeft ⟨#[]⟩) (s := s) (x := more) hs (p := 11) (q := 11) rfl (fun l => by kernel_rfl) (by decide) (by kernel_rfl) (by kernel_rfl) (by decide) (by kernel_rfl)]
  rfl
theorem x5 (l : Nat) : takeP (tkX V s l 11 12 1 tRight ⟨#[]⟩) = .inr ((), tkX V s l 13 18 1 wClass ⟨#[]⟩) := by
  rw [takeP, tail_word (V := tkX V s l 11 12 1 tRight ⟨#[]⟩) (s := s) (x := more) hs (p := 12) (q := 13) rfl (fun l => by kernel_rfl) (by decide) (by kernel_rfl) (e := 18) (by kernel_rfl) (by kernel_rfl)]
  rfl
theorem x6 (l : Nat) : takeP (tkX V s l 13 18 1 wClass ⟨#[]⟩) = .inr ((), tkX V s l 19 22 2 ⟨#[]⟩ zzClass) := by
  rw [takeP, tail_name (V := tkX V s l 13 18 1 wClass ⟨#[]⟩) (s := s) (x := more) hs (p := 18) (q := 19) rfl (fun l => by kernel_rfl) (by decide) (by kernel_rfl) (e := 22) (by kernel_rfl) (by kernel_rfl) (by decide)]
  rfl
theorem x7 (l : Nat) : takeP (tkX V s l 19 22 2 ⟨#[]⟩ zzClass) = .inr ((), tkX V s l 23 24 1 tLeft ⟨#[]⟩) := by
  rw [takeP, tail_sign (V := tkX V s l 19 22 2 ⟨#[]⟩ zzClass) (s := s) (x := more) hs (p := 22) (q := 23) rfl (fun l => by kernel_rfl) (by decide) (by kernel_rfl) (by kernel_rfl) (by decide) (by kernel_rfl)]
  rfl
theorem x8 (l : Nat) : takeP (tkX V s l 23 24 1 tLeft ⟨#[]⟩) = .inr ((), tkX V s l 24 25 1 tRight ⟨#[]⟩) := by
  rw [takeP, tail_sign (V := tkX V s l 23 24 1 tLeft ⟨#[]⟩) (s := s) (x := more) hs (p := 24) (q := 24) rfl (fun l => by kernel_rfl) (by decide) (by kernel_rfl) (by kernel_rfl) (by decide) (by kernel_rfl)]
  rfl
theorem x9 (l : Nat) : takeP (tkX V s l 24 25 1 tRight ⟨#[]⟩) = .inr ((), tkX V s l 25 25 0 ⟨#[]⟩ ⟨#[]⟩) := by
  rw [takeP, tail_end (V := tkX V s l 24 25 1 tRight ⟨#[]⟩) (s := s) (x := more) hs (p := 25) (q := 25) rfl (fun l => by kernel_rfl) (by decide)]
  rfl
end
end Go.Proofs.YtjcoobkpmpjpbaaGreatDoor

namespace Go.Proofs.YtjcoobkpmpjpbaaGreatDoor
open Go.RowKit
set_option linter.unusedVariables false

theorem nm_of {S S1 : LS} (hk : S.kd = 2) (h : takeP S = .inr ((), S1)) : nameP S = .inr (S.tx, S1) := by rw [nameP, if_pos hk, bnd_inr h]
theorem wn_of {m : ByteArray} {S S1 : LS} (hb : S.is m = true) (h : takeP S = .inr ((), S1)) : wantP m S = .inr ((), S1) := by rw [wantP, if_pos hb, h]
theorem ac_of {m : ByteArray} {S S1 : LS} (hb : S.is m = true) (h : takeP S = .inr ((), S1)) : acceptP m S = .inr (true, S1) := by rw [acceptP, if_pos hb, bnd_inr h]
theorem ac_no {m : ByteArray} {S : LS} (hb : S.is m = false) : acceptP m S = .inr (false, S) := by rw [acceptP, if_neg (by rw [hb]; decide)]

def fnTree (l : Nat) : Tree := ndT 5 zzFn l [nd 6 l [], nd 7 l []]
def classTree (l : Nat) : Tree := ndT 2 zzClass l []

section
variable {V : LS} {s : ByteArray} (hs : V.src = s ++ more)
include hs
theorem fn_more (L : Low) (hp : V.pl = s.size + 3) (hl : V.tl = V.ln) : fnP L V = .inr (fnTree V.ln, tkX V s V.ln 13 18 1 wClass ⟨#[]⟩) := by
  have hpar : paramsP (tkX V s V.ln 7 8 1 tOpen ⟨#[]⟩) = .inr (nd 6 V.ln [], tkX V s V.ln 10 11 1 tLeft ⟨#[]⟩) := by
    rw [paramsP, bnd_inr (wn_of (by kernel_rfl) (x2 hs V.ln)), bnd_inr (show listedP tShut paramP _ = .inr ([], _) by rw [listedP, bnd_inr (ac_of (by kernel_rfl) (x3 hs V.ln)), if_pos rfl])]
    rfl
  have hblk : blockP L (tkX V s V.ln 10 11 1 tLeft ⟨#[]⟩) = .inr (nd 7 V.ln [], tkX V s V.ln 13 18 1 wClass ⟨#[]⟩) := by
    rw [blockP, bnd_inr (wn_of (by kernel_rfl) (x4 hs V.ln)), bnd_inr (show untilP tRight L.S 3002 [] _ = .inr ([], _) by rw [untilP, bnd_inr (ac_of (by kernel_rfl) (x5 hs V.ln)), if_pos rfl])]
    rfl
  rw [fnP, bnd_inr (x0 hs hp), bnd_inr (nm_of rfl (x1 hs V.ln)), bnd_inr (show bodyP L _ = .inr ((nd 6 V.ln [], nd 7 V.ln []), _) by rw [bodyP, bnd_inr hpar, bnd_inr hblk]), hl]
  rfl
theorem class_more (L : Low) (l : Nat) : classP L (tkX V s l 13 18 1 wClass ⟨#[]⟩) = .inr (classTree l, tkX V s l 25 25 0 ⟨#[]⟩ ⟨#[]⟩) := by
  rw [classP, bnd_inr (x6 hs l), bnd_inr (nm_of rfl (x7 hs l)), bnd_inr (show underP _ = .inr (noText, _) by rw [underP, bnd_inr (ac_no (by kernel_rfl)), if_neg (by decide)]), bnd_inr (wn_of (by kernel_rfl) (x8 hs l)),
    bnd_inr (show fieldsP 10 [] _ = .inr ([], _) by rw [fieldsP, if_neg (by rw [show (tkX V s l 24 25 1 tRight ⟨#[]⟩).is wField = false by kernel_rfl]; decide)]),
    bnd_inr (show untilP tRight (methodP L) 3002 [] _ = .inr ([], _) by rw [untilP, bnd_inr (ac_of (by kernel_rfl) (x9 hs l)), if_pos rfl])]
  rfl
theorem prog_more (L : Low) (hk : V.kd = 1) (hm : V.mrk = wFn) (hp : V.pl = s.size + 3) (hl : V.tl = V.ln) (j : Nat) (ks : List Tree) :
    progLoop L (j + 3) ks V = .inr (ks ++ [fnTree V.ln] ++ [classTree V.ln], tkX V s V.ln 25 25 0 ⟨#[]⟩ ⟨#[]⟩) := by
  have h1 : V.is wClass = false := by unfold LS.is; rw [hk, hm]; kernel_rfl
  have h2 : V.is wFn = true := by unfold LS.is; rw [hk, hm]; kernel_rfl
  have h3 : (tkX V s V.ln 13 18 1 wClass ⟨#[]⟩).is wClass = true := by kernel_rfl
  rw [progLoop, if_neg (by rw [hk]; decide), bnd_inr (show outermostP L V = .inr (fnTree V.ln, _) by rw [outermostP, if_neg (by rw [h1]; decide), if_pos h2]; exact fn_more hs L hp hl),
    progLoop, if_neg (show ¬ (tkX V s V.ln 13 18 1 wClass ⟨#[]⟩).kd = 0 from show ¬ (1 : Nat) = 0 by decide), bnd_inr (show outermostP L _ = .inr (classTree V.ln, _) by rw [outermostP, if_pos h3]; exact class_more hs L V.ln), progLoop, if_pos (show (tkX V s V.ln 25 25 0 ⟨#[]⟩ ⟨#[]⟩).kd = 0 from rfl)]
end

/-- THE LONGER TEXT: what the shorter one holds, then the function and the class. -/
theorem readP_more {s : ByteArray} (hz : s.size ≤ 2975) (v : Value) {t : Tree} {T : LS} (h : readP s v = .inr (t, T)) :
    ∃ l0 l T', readP (s ++ more) v = .inr (nd 1 l0 (t.kids ++ [fnTree l] ++ [classTree l]), T') ∧ t = nd 1 t.line t.kids := by
  unfold readP at h ⊢
  cases h1 : advP (firstS s v) with
  | inl f => rw [h1] at h; cases h
  | inr S =>
    rw [h1] at h
    obtain ⟨S', h2, hr⟩ := advP_sx (S := firstS s v) (S' := firstS (s ++ more) v) ⟨sfx_more s, rfl, rfl, rfl, rfl, rfl, rfl, rfl, rfl, rfl, fnx_more s⟩ ⟨by show s.size ≤ 3000; omega, Nat.zero_le _, Nat.le_refl _⟩ h1
    have ok := (advP_ok (S := firstS s v) ⟨by show s.size ≤ 3000; omega, Nat.zero_le _, Nat.le_refl _⟩ h1).1
    rw [h2]
    show ∃ l0 l T', programP (lower 26) S' = _ ∧ _
    have h : programP (lower 26) S = .inr (t, T) := h
    obtain ⟨ks, U, h3, h4⟩ := bnd_some h
    cases h4
    obtain ⟨okU, hsrc, T', j, hE, hf, hl, hn, ht, hp⟩ := progLoop_sf (lower_sf 26) 3002 [] S S' ok hr ks T h3
    have ht2 := okU.fit.pl
    have ht3 := okU.tp
    have hs0 : S.src = s := (advP_ok (S := firstS s v) ⟨by show s.size ≤ 3000; omega, Nat.zero_le _, Nat.le_refl _⟩ h1).2.2.src
    have hs1 : T.src = s := hsrc.trans hs0
    have hs2 : T'.src = s ++ more := by rw [hE.fit.app, hs1]
    rw [hs1] at ht2
    have hj : ∃ i, j = i + 3 := ⟨j - 3, by rw [List.length_nil] at hf hn; omega⟩
    obtain ⟨i, rfl⟩ := hj
    have hg := prog_more hs2 (lower 26) hE.kd hE.mrk (by rw [hE.pl, hs1]) (by rw [hE.tl, hE.ln]) i ks
    refine ⟨S'.tl, T'.ln, tkX T' s T'.ln 25 25 0 ⟨#[]⟩ ⟨#[]⟩, ?_, rfl⟩
    rw [programP, hp, bnd_inr hg]
    rfl
end Go.Proofs.YtjcoobkpmpjpbaaGreatDoor
