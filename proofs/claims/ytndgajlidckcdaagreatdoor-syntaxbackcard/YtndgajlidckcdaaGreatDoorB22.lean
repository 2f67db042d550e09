/-
  A program that was read has no more nodes than bytes, and one.
  How long what is written may be.
-/
import Derived.Test.YtndgajlidckcdaaGreatDoorB21
namespace Go.Proofs.YtndgajlidckcdaaGreatDoor
open Go.RowKit
set_option linter.unusedVariables false

def manyL (l : List Tree) : Nat := (l.map Tree.many).sum
theorem sz_mk {k : Nat} {a b : ByteArray} {n : Int} {ln : Nat} {l : List Tree} : (⟨k, a, b, n, ln, l⟩ : Tree).many = 1 + manyL l := many_eq _
theorem sz_nd {k ln : Nat} {l : List Tree} : (nd k ln l).many = 1 + manyL l := many_eq _
theorem sz_ndT {k ln : Nat} {s : ByteArray} {l : List Tree} : (ndT k s ln l).many = 1 + manyL l := many_eq _
theorem sz_nil : manyL [] = 0 := rfl
theorem sz_cons {t : Tree} {l : List Tree} : manyL (t :: l) = t.many + manyL l := by simp [manyL]
theorem sz_app {l r : List Tree} : manyL (l ++ r) = manyL l + manyL r := by simp [manyL]
/-- What was read is paid for by what was passed. -/
def En {α : Type} (p : Nat) (m : α → Nat) (r : Res α) : Prop := ∀ a S', r = .inr (a, S') → Ok S' ∧ m a + p ≤ S'.tp
def none0 {α : Type} (_ : α) : Nat := 0
section
variable {α β : Type} {m : α → Nat} {m' : β → Nat} {p q : Nat} {S : LS}
theorem nbd {t : Res α} {k : α → LS → Res β} (h : En q m t) (hk : ∀ a S, Ok S → m a + q ≤ S.tp → En p m' (k a S)) : En p m' (bnd t k) := fun b S' e => by
  obtain ⟨a, S1, h1, h2⟩ := bnd_some e
  exact hk a S1 (h a S1 h1).1 (h a S1 h1).2 b S' h2
theorem ni {a : α} (ok : Ok S) (h : m a + p ≤ S.tp) : En p m (.inr (a, S)) := fun _ _ e => by cases e; exact ⟨ok, h⟩
theorem nl {f : Int × Nat} : En p m (.inl f : Res α) := fun _ _ e => by cases e
theorem nf {c : Prop} [Decidable c] {a b : Res α} (ha : c → En p m a) (hb : ¬ c → En p m b) : En p m (if c then a else b) := by
  by_cases h : c
  · rw [if_pos h]; exact ha h
  · rw [if_neg h]; exact hb h
theorem nt {k : Unit → LS → Res β} (ok : Ok S) (hk : S.kd ≠ 0) (h : ∀ S1, Ok S1 → S.tp + 1 ≤ S1.tp → En p m' (k () S1)) : En p m' (bnd (takeP S) k) := fun b S' e => by
  obtain ⟨a, S1, h1, h2⟩ := bnd_some e
  have o := take_on ok hk h1
  exact h S1 o.ok o.tp b S' h2
theorem nw {s : ByteArray} {k : Unit → LS → Res β} (ok : Ok S) (h : ∀ S1, Ok S1 → S.tp + 1 ≤ S1.tp → En p m' (k () S1)) : En p m' (bnd (wantP s S) k) := fun b S' e => by
  obtain ⟨a, S1, h1, h2⟩ := bnd_some e
  have o := want_on ok h1
  exact h S1 o.ok o.tp b S' h2
theorem nn {k : ByteArray → LS → Res β} (ok : Ok S) (h : ∀ s S1, Ok S1 → S.tp + 1 ≤ S1.tp → En p m' (k s S1)) : En p m' (bnd (nameP S) k) := fun b S' e => by
  obtain ⟨a, S1, h1, h2⟩ := bnd_some e
  have o := name_on ok h1
  exact h a S1 o.ok o.tp b S' h2
theorem na {s : ByteArray} {k : Bool → LS → Res β} (ok : Ok S) (h : ∀ b S1, Ok S1 → S.tp ≤ S1.tp → (b = true → S.tp + 1 ≤ S1.tp) → En p m' (k b S1)) : En p m' (bnd (acceptP s S) k) := fun b S' e => by
  obtain ⟨a, S1, h1, h2⟩ := bnd_some e
  have o := accept_on ok h1
  exact h a S1 o.1.ok o.1.tp (fun e => (o.2.1 e).tp) b S' h2
theorem nm {n : Nat} {k : Unit → LS → Res β} (h : En p m' (k () S)) : En p m' (bnd (limitP n S) k) := fun b S' e => by
  obtain ⟨a, S1, h1, h2⟩ := bnd_some e
  rw [limit_on h1] at h2
  exact h b S' h2
end
theorem weaker {P : LS → Res Tree} {S1 : LS} {p : Nat} (h : En S1.tp Tree.many (P S1)) (hp : p ≤ S1.tp) : En p Tree.many (P S1) := fun a S' e => ⟨(h a S' e).1, by have := (h a S' e).2; omega⟩
def Rm (P : LS → Res Tree) : Prop := ∀ S, Ok S → En S.tp Tree.many (P S)
theorem leaf_m {k : Nat} {S : LS} (ok : Ok S) (hk : S.kd ≠ 0) : En S.tp Tree.many (leafP k S) := nt ok hk fun _ o h => ni o (by rw [sz_mk, sz_nil]; omega)
theorem param_m : Rm paramP := fun _ ok => nn ok fun _ _ o h => ni o (by rw [sz_mk, sz_nil]; omega)
theorem listLoop_m {shut : ByteArray} {P : LS → Res Tree} (hP : Rm P) : ∀ (f : Nat) (acc : List Tree) (S : LS) (p : Nat), Ok S → manyL acc + p ≤ S.tp → En p manyL (listLoop shut P f acc S)
  | 0, _, _, _, _, _ => nl
  | f + 1, acc, S, p, ok, h => nm (nbd (hP S ok) fun t S1 o1 h1 => na o1 fun b S2 o2 h2 _ => nf (fun _ => ni o2 (by rw [sz_app, sz_cons, sz_nil]; omega)) fun _ => nw o2 fun S3 o3 h3 => listLoop_m hP f _ S3 p o3 (by rw [sz_app, sz_cons, sz_nil]; omega))
theorem listed_m {shut : ByteArray} {P : LS → Res Tree} (hP : Rm P) (S : LS) (ok : Ok S) : En S.tp manyL (listedP shut P S) := na ok fun b S1 o1 h1 _ => nf (fun _ => ni o1 (by rw [sz_nil]; omega)) fun _ => listLoop_m hP 9 [] S1 S.tp o1 (by rw [sz_nil]; omega)
theorem params_m : Rm paramsP := fun S ok => nw ok fun S1 o1 h1 => nbd (listed_m param_m S1 o1) fun _ _ o2 h2 => ni o2 (by rw [sz_mk]; omega)
theorem until_m {shut : ByteArray} {P : LS → Res Tree} (hP : Rm P) : ∀ (f : Nat) (acc : List Tree) (S : LS) (p : Nat), Ok S → manyL acc + p ≤ S.tp → En p manyL (untilP shut P f acc S)
  | 0, _, _, _, _, _ => nl
  | f + 1, acc, S, p, ok, h => na ok fun b S1 o1 h1 _ => nf (fun _ => ni o1 (by omega)) fun _ => nbd (hP S1 o1) fun t S2 o2 h2 => until_m hP f _ S2 p o2 (by rw [sz_app, sz_cons, sz_nil]; omega)
structure LowM (L : Low) : Prop where
  v : Rm L.V
  s : Rm L.S
  n : Rm L.N
def two (pb : Tree × Tree) : Nat := pb.1.many + pb.2.many
theorem block_m {L : Low} (hL : LowM L) : Rm (blockP L) := fun S ok => nw ok fun S1 o1 h1 => nbd (until_m hL.s 3002 [] S1 S1.tp o1 (by rw [sz_nil]; omega)) fun _ _ o2 h2 => ni o2 (by rw [sz_mk]; omega)
theorem body_m {L : Low} (hL : LowM L) (S : LS) (ok : Ok S) : En S.tp two (bodyP L S) := nbd (params_m S ok) fun _ S1 o1 h1 => nbd (block_m hL S1 o1) fun _ _ o2 h2 => ni o2 (by unfold two; simp only; omega)
theorem inPar_m {L : Low} (hL : LowM L) : Rm (inParP L) := fun S ok => nw ok fun S1 o1 h1 => nbd (hL.v S1 o1) fun _ _ o2 h2 => nw o2 fun _ o3 h3 => ni o3 (by omega)
theorem args_m {L : Low} (hL : LowM L) (S : LS) (ok : Ok S) : En S.tp manyL (argsP L S) := listed_m hL.v S ok
theorem method_m {L : Low} (hL : LowM L) : Rm (methodP L) := fun S ok => nn ok fun _ S2 o2 h2 => nbd (body_m hL S2 o2) fun pb _ o3 h3 => ni o3 (by unfold two at h3; rw [sz_ndT, sz_cons, sz_cons, sz_nil]; omega)
theorem fn_m {L : Low} (hL : LowM L) {S : LS} (ok : Ok S) (hk : S.kd ≠ 0) : En S.tp Tree.many (fnP L S) := nt ok hk fun _ o1 h1 => nn o1 fun _ S2 o2 h2 => nbd (body_m hL S2 o2) fun pb _ o3 h3 => ni o3 (by unfold two at h3; rw [sz_ndT, sz_cons, sz_cons, sz_nil]; omega)
theorem lambda_m {L : Low} (hL : LowM L) {S : LS} (ok : Ok S) (hk : S.kd ≠ 0) : En S.tp Tree.many (lambdaP L S) := nt ok hk fun S1 o1 h1 => nbd (body_m hL S1 o1) fun pb _ o3 h3 => ni o3 (by unfold two at h3; rw [sz_nd, sz_cons, sz_cons, sz_nil]; omega)
theorem field_m {n : Nat} {S : LS} (ok : Ok S) (hk : S.kd ≠ 0) : En S.tp Tree.many (fieldP n S) := nt ok hk fun _ o1 h1 => nm (nn o1 fun _ _ o2 h2 => nw o2 fun _ o3 h3 => ni o3 (by rw [sz_ndT, sz_nil]; omega))
theorem fields_m : ∀ (f : Nat) (acc : List Tree) (S : LS) (p : Nat), Ok S → manyL acc + p ≤ S.tp → En p manyL (fieldsP f acc S)
  | 0, _, _, _, _, _ => nl
  | f + 1, acc, S, p, ok, h => nf (fun hi => nbd (field_m ok (is_kd hi)) fun t S1 o1 h1 => fields_m f _ S1 p o1 (by rw [sz_app, sz_cons, sz_nil]; omega)) fun _ => ni ok h
theorem under_m (S : LS) (ok : Ok S) : En S.tp none0 (underP S) := na ok fun _ S1 o1 h1 _ => nf (fun _ => fun a S' e => by
  have o := name_on o1 e
  exact ⟨o.ok, by have := o.tp; unfold none0; omega⟩) fun _ => ni o1 (by unfold none0; omega)
theorem class_m {L : Low} (hL : LowM L) {S : LS} (ok : Ok S) (hk : S.kd ≠ 0) : En S.tp Tree.many (classP L S) := nt ok hk fun _ o1 h1 => nn o1 fun _ S2 o2 h2 => nbd (under_m S2 o2) fun _ _ o3 h3 => nw o3 fun S4 o4 h4 => nbd (fields_m 10 [] S4 S4.tp o4 (by rw [sz_nil]; omega)) fun fs S5 o5 h5 => nbd (until_m (method_m hL) 3002 fs S5 S4.tp o5 h5) fun _ _ o6 h6 => ni o6 (by rw [sz_mk]; omega)
theorem outermost_m {L : Low} (hL : LowM L) : Rm (outermostP L) := fun S ok => nf (fun hi => class_m hL ok (is_kd hi)) fun _ => nf (fun hi => fn_m hL ok (is_kd hi)) fun _ => hL.s S ok
theorem prog_m {L : Low} (hL : LowM L) : ∀ (f : Nat) (acc : List Tree) (S : LS) (p : Nat), Ok S → manyL acc + p ≤ S.tp → En p manyL (progLoop L f acc S)
  | 0, _, _, _, _, _ => nl
  | f + 1, acc, S, p, ok, h => nf (fun _ => ni ok h) fun _ => nbd (outermost_m hL S ok) fun t S1 o1 h1 => prog_m hL f _ S1 p o1 (by rw [sz_app, sz_cons, sz_nil]; omega)
theorem close_m {P : LS → Res Tree} (hP : Rm P) : Rm (closeP P) := fun S ok => nbd (hP S ok) fun _ _ o1 h1 => nw o1 fun _ o2 h2 => ni o2 (by omega)
theorem endP_m {k : Nat} {P : LS → Res Tree} (hP : Rm P) {S : LS} (ok : Ok S) (hk : S.kd ≠ 0) : En S.tp Tree.many (endP k P S) := nt ok hk fun S1 o1 h1 => nbd (close_m hP S1 o1) fun _ _ o2 h2 => ni o2 (by rw [sz_nd, sz_cons, sz_nil]; omega)
theorem variable_m {L : Low} (hL : LowM L) {S : LS} (ok : Ok S) (hk : S.kd ≠ 0) : En S.tp Tree.many (variableP L S) := nt ok hk fun _ o1 h1 => nn o1 fun _ _ o2 h2 => nw o2 fun S3 o3 h3 => nbd (close_m hL.v S3 o3) fun _ _ o4 h4 => ni o4 (by rw [sz_ndT, sz_cons, sz_nil]; omega)
theorem guarded_m {L : Low} (hL : LowM L) {k : Nat} {S : LS} (ok : Ok S) (hk : S.kd ≠ 0) : En S.tp Tree.many (guardedP L k S) := nt ok hk fun S1 o1 h1 => nbd (inPar_m hL S1 o1) fun _ S2 o2 h2 => nbd (block_m hL S2 o2) fun _ _ o3 h3 => ni o3 (by rw [sz_nd, sz_cons, sz_cons, sz_nil]; omega)
theorem choice_m {L : Low} (hL : LowM L) {S : LS} (ok : Ok S) (hk : S.kd ≠ 0) : En S.tp Tree.many (choiceP L S) := nbd (guarded_m hL ok hk) fun t _ o1 h1 => na o1 fun _ S2 o2 h2 _ => nf (fun _ => nbd (block_m hL S2 o2) fun _ _ o3 h3 => ni o3 (by have := many_eq t; rw [sz_mk, sz_app, sz_cons, sz_nil]; unfold manyL at *; omega)) fun _ => ni o2 (by omega)
theorem returned_m {L : Low} (hL : LowM L) {S : LS} (ok : Ok S) (hk : S.kd ≠ 0) : En S.tp Tree.many (returnedP L S) := nt ok hk fun _ o1 h1 => na o1 fun _ S2 o2 h2 _ => nf (fun _ => ni o2 (by rw [sz_nd, sz_nil]; omega)) fun _ => nbd (close_m hL.v S2 o2) fun _ _ o3 h3 => ni o3 (by rw [sz_nd, sz_cons, sz_nil]; omega)
theorem catch_m {L : Low} (hL : LowM L) : Rm (catchP L) := fun S ok => nw ok fun _ o1 h1 => nw o1 fun _ o2 h2 => nn o2 fun _ _ o3 h3 => nw o3 fun S4 o4 h4 => nbd (block_m hL S4 o4) fun _ _ o5 h5 => ni o5 (by rw [sz_ndT, sz_cons, sz_nil]; omega)
theorem try_m {L : Low} (hL : LowM L) {S : LS} (ok : Ok S) (hk : S.kd ≠ 0) : En S.tp Tree.many (tryP L S) := nt ok hk fun S1 o1 h1 => nbd (block_m hL S1 o1) fun _ S2 o2 h2 => nbd (catch_m hL S2 o2) fun _ _ o3 h3 => ni o3 (by rw [sz_nd, sz_cons, sz_cons, sz_nil]; omega)
theorem bare_m {L : Low} (hL : LowM L) : Rm (bareP L) := fun S ok => nbd (hL.v S ok) fun _ _ o1 h1 => nf (fun hi => nf (fun _ => nt o1 (is_kd hi) fun S2 o2 h2 => nbd (hL.v S2 o2) fun _ _ o3 h3 => nw o3 fun _ o4 h4 => ni o4 (by rw [sz_nd, sz_cons, sz_cons, sz_nil]; omega)) fun _ => nl) fun _ => nw o1 fun _ o2 h2 => ni o2 (by rw [sz_nd, sz_cons, sz_nil]; omega)
theorem any_m {L : Low} (hL : LowM L) : Rm (anyP L) := fun S ok => nf (fun hi => variable_m hL ok (is_kd hi)) fun _ => nf (fun hi => choice_m hL ok (is_kd hi)) fun _ => nf (fun hi => guarded_m hL ok (is_kd hi)) fun _ => nf (fun hi => returned_m hL ok (is_kd hi)) fun _ => nf (fun hi => endP_m hL.v ok (is_kd hi)) fun _ => nf (fun hi => endP_m (inPar_m hL) ok (is_kd hi)) fun _ => nf (fun hi => try_m hL ok (is_kd hi)) fun _ => bare_m hL S ok
theorem sz_around {k : Nat} {t : Tree} {l : List Tree} : (around k t l).many = 1 + t.many + manyL l := by rw [around, sz_nd, sz_cons]; omega
theorem joinLoop_m {lev : Nat} {P : LS → Res Tree} (hP : Rm P) : ∀ (f : Nat) (t : Tree) (S : LS) (p : Nat), Ok S → t.many + p ≤ S.tp → En p Tree.many (joinLoop lev P f t S)
  | 0, _, _, _, _, _ => nl
  | f + 1, t, S, p, ok, h => nf (fun _ => ni ok h) fun hj => nt ok (joiner_kd hj) fun S1 o1 h1 => nbd (hP S1 o1) fun _ S2 o2 h2 => joinLoop_m hP f _ S2 p o2 (by rw [sz_around, sz_cons, sz_nil]; omega)
theorem jo_m {P : LS → Res Tree} (hP : Rm P) : ∀ (n : Nat), Rm (jo P n)
  | 0 => hP
  | n + 1 => fun S ok => nbd (jo_m hP n S ok) fun t S1 o1 h1 => joinLoop_m (jo_m hP n) 3002 t S1 S.tp o1 h1
theorem member_m {L : Low} (hL : LowM L) {t : Tree} {S : LS} {p : Nat} (ok : Ok S) (h : t.many + p ≤ S.tp) : En p Tree.many (memberP L t S) := nn ok fun _ _ o1 h1 => na o1 fun _ S2 o2 h2 _ => nf (fun _ => nbd (args_m hL S2 o2) fun _ _ o3 h3 => ni o3 (by rw [sz_ndT, sz_cons]; omega)) fun _ => ni o2 (by rw [sz_ndT, sz_cons, sz_nil]; omega)
theorem suf_m {L : Low} (hL : LowM L) : ∀ (f : Nat) (t : Tree) (S : LS) (p : Nat), Ok S → t.many + p ≤ S.tp → En p Tree.many (sufLoop L f t S)
  | 0, _, _, _, _, _ => nl
  | f + 1, t, S, p, ok, h => na ok fun b S1 o1 h1 g1 => nf (fun _ => nbd (member_m hL (p := p) o1 (by omega)) fun u S2 o2 h2 => suf_m hL f u S2 p o2 h2) fun _ => na o1 fun b S2 o2 h2 g2 => nf (fun e => nbd (hL.v S2 o2) fun _ _ o3 h3 => nw o3 fun S4 o4 h4 => suf_m hL f _ S4 p o4 (by rw [sz_around, sz_cons, sz_nil]; omega)) fun _ => na o2 fun b S3 o3 h3 g3 => nf (fun e => nbd (args_m hL S3 o3) fun _ S4 o4 h4 => suf_m hL f _ S4 p o4 (by have := g3 e; rw [sz_around]; omega)) fun _ => ni o3 (by omega)
theorem named_m {L : Low} (hL : LowM L) {k ln : Nat} : Rm (namedP L k ln) := fun S ok => nn ok fun _ _ o1 h1 => nw o1 fun S2 o2 h2 => nbd (args_m hL S2 o2) fun _ _ o3 h3 => ni o3 (by rw [sz_ndT]; omega)
theorem marked_m {L : Low} (hL : LowM L) : Rm (markedP L) := fun S ok => by
  unfold markedP
  exact nf (fun _ => inPar_m hL S ok) fun _ => nf (fun hi => nt ok (is_kd hi) fun S1 o1 h1 => nbd (listed_m hL.v S1 o1) fun _ _ o2 h2 => ni o2 (by rw [sz_nd]; omega)) fun _ => nf (fun hi => lambda_m hL ok (is_kd hi)) fun _ => nf (fun hi => nt ok (is_kd hi) fun S1 o1 h1 => weaker (named_m hL S1 o1) (by omega)) fun _ => nf (fun hi => nt ok (is_kd hi) fun _ o1 h1 => nw o1 fun S2 o2 h2 => weaker (named_m hL S2 o2) (by omega)) fun _ => nf (fun hi => nt ok (is_kd hi) fun _ o1 h1 => nw o1 fun _ o2 h2 => nw o2 fun _ o3 h3 => ni o3 (by rw [sz_nd, sz_nil]; omega)) fun _ => nf (fun hi => nt ok (is_kd hi) fun S1 o1 h1 => nbd (inPar_m hL S1 o1) fun _ _ o2 h2 => ni o2 (by rw [sz_nd, sz_cons, sz_nil]; omega)) fun _ => nl
theorem simple_m {L : Low} (hL : LowM L) : Rm (simpleP L) := fun S ok => nf (fun h => leaf_m ok (by omega)) fun _ => nf (fun h => leaf_m ok (by omega)) fun _ => nf (fun h => leaf_m ok (by omega)) fun _ => nf (fun _ => marked_m hL S ok) fun h => leaf_m ok (const_kd h)
theorem suffixed_m {L : Low} (hL : LowM L) : Rm (suffixedP L) := fun S ok => nbd (simple_m hL S ok) fun t S1 o1 h1 => suf_m hL 3002 t S1 S.tp o1 h1
theorem signed_m {L : Low} (hL : LowM L) {k : Nat} {S : LS} (ok : Ok S) (hk : S.kd ≠ 0) : En S.tp Tree.many (signedP L k S) := nt ok hk fun S1 o1 h1 => nbd (hL.n S1 o1) fun _ _ o2 h2 => ni o2 (by rw [sz_nd, sz_cons, sz_nil]; omega)
theorem prefixed_m {L : Low} (hL : LowM L) : Rm (prefixedP L) := fun S ok => nf (fun hi => signed_m hL ok (is_kd hi)) fun _ => nf (fun hi => signed_m hL ok (is_kd hi)) fun _ => suffixed_m hL S ok
theorem deep_m {P : LS → Res Tree} (hP : Rm P) : Rm (deepP P) := fun S ok => nf (fun _ => nl) fun _ => nbd (hP { S with dp := S.dp + 1 } ⟨⟨ok.fit.size, ok.fit.pl, ok.fit.ln⟩, ok.tp, ok.tl, ok.now⟩) fun _ _ o h => ni ⟨⟨o.fit.size, o.fit.pl, o.fit.ln⟩, o.tp, o.tl, o.now⟩ h
theorem lower_m : ∀ d, LowM (lower d)
  | 0 => ⟨fun _ _ => nl, fun _ _ => nl, fun _ _ => nl⟩
  | d + 1 => ⟨deep_m (jo_m (prefixed_m (lower_m d)) 6), deep_m (any_m (lower_m d)), deep_m (prefixed_m (lower_m d))⟩
theorem program_m {S : LS} (ok : Ok S) {t : Tree} {S' : LS} (h : programP (lower 26) S = .inr (t, S')) : Ok S' ∧ t.many + S.tp ≤ S'.tp + 1 := by
  obtain ⟨ks, S1, h1, h2⟩ := bnd_some h
  cases h2
  have := prog_m (lower_m 26) 3002 [] S S.tp ok (by rw [sz_nil]; omega) ks S' h1
  exact ⟨this.1, by rw [sz_nd]; omega⟩
theorem readP_many {s : ByteArray} (hs : s.size ≤ 3000) {v : Value} {t : Tree} {S : LS} (h : readP s v = .inr (t, S)) : t.many ≤ 3001 := by
  unfold readP at h
  split at h
  · cases h
  · rename_i T hT
    have ok := (advP_ok (S := firstS s v) ⟨hs, Nat.zero_le _, Nat.le_refl _⟩ hT).1
    obtain ⟨o, hm⟩ := program_m ok h
    have := o.tp
    have := o.fit.pl
    have := o.fit.size
    omega
theorem many_mem {k : Tree} : ∀ {l : List Tree}, k ∈ l → k.many ≤ manyL l
  | x :: l, h => by
    rw [sz_cons]
    rcases List.mem_cons.1 h with rfl | h
    · omega
    · have := many_mem h
      omega
end Go.Proofs.YtndgajlidckcdaaGreatDoor

namespace Go.Proofs.YtndgajlidckcdaaGreatDoor
open Go.RowKit
set_option linter.unusedVariables false
set_option linter.unusedSimpArgs false

theorem bsz (a : Array UInt8) : (⟨a⟩ : ByteArray).size = a.size := rfl
theorem mk_len (l : List UInt8) : (⟨l.toArray⟩ : ByteArray).size = l.length := by rw [bsz, List.size_toArray]
theorem dlen (a : ByteArray) : a.data.toList.length = a.size := by rw [Array.length_toList]; rfl
theorem xIn_len (d : Nat) : (xIn d).size = 2 * d := by
  unfold xIn
  rw [mk_len, Lib.repeatL_length]
  show d * 2 = _
  omega
section
variable {R : Wr} {d : Nat}
theorem xval_len {t : Tree} (l : Nat) (h : (R.B d t).size + 9000 ≤ 30000 * t.many) : (xVal R d l t).size + 8998 ≤ 30000 * t.many := by
  unfold xVal
  split
  · simp only [ByteArray.size_append, bsz, List.size_toArray, List.length_cons, List.length_nil]; omega
  · omega
theorem tail_len {l : List Tree} (h : ∀ k ∈ l, (R.B d k).size + 9000 ≤ 30000 * k.many) : (Lib.joinTail [44, 32] (l.map fun t => (xVal R d 1 t).data.toList)).length ≤ 30000 * manyL l := by
  induction l with
  | nil => exact Nat.zero_le _
  | cons a l ih =>
    have h1 := xval_len 1 (h a (List.mem_cons_self ..))
    have h2 := ih fun k hk => h k (List.mem_cons_of_mem _ hk)
    have e : Lib.joinTail [44, 32] ((a :: l).map fun t => (xVal R d 1 t).data.toList) = [44, 32] ++ (xVal R d 1 a).data.toList ++ Lib.joinTail [44, 32] (l.map fun t => (xVal R d 1 t).data.toList) := by simp [Lib.joinTail]
    rw [e, List.length_append, List.length_append, dlen, sz_cons]
    simp only [List.length_cons, List.length_nil]
    omega
theorem xvals_len {l : List Tree} (h : ∀ k ∈ l, (R.B d k).size + 9000 ≤ 30000 * k.many) : (xVals R d l).size ≤ 30000 * manyL l := by
  unfold xVals
  rw [mk_len]
  cases l with
  | nil => exact Nat.zero_le _
  | cons a l =>
    have h1 := xval_len 1 (h a (List.mem_cons_self ..))
    have h2 := tail_len fun k hk => h k (List.mem_cons_of_mem _ hk)
    rw [List.map_cons, Lib.join_cons, List.length_append, dlen, sz_cons]
    omega
theorem xargs_len {l : List Tree} (h : ∀ k ∈ l, (R.B d k).size + 9000 ≤ 30000 * k.many) : (xArgs R d l).size ≤ 30000 * manyL l + 2 := by
  have := xvals_len h
  unfold xArgs
  simp only [ByteArray.size_append, bsz, List.size_toArray, List.length_cons, List.length_nil]
  omega
theorem xline_len {t : Tree} (hd : d ≤ 3000) (h : (R.S d t).size + 9000 ≤ 30000 * t.many) : (xLine R d t).size ≤ 30000 * t.many := by
  unfold xLine
  have := xIn_len d
  simp only [ByteArray.size_append, bsz, List.size_toArray, List.length_cons, List.length_nil]
  omega
theorem xlines_len {l : List Tree} (hd : d ≤ 3000) (h : ∀ k ∈ l, (R.S d k).size + 9000 ≤ 30000 * k.many) : (xLines R d l).size ≤ 30000 * manyL l := by
  unfold xLines
  rw [mk_len]
  induction l with
  | nil => exact Nat.zero_le _
  | cons a l ih =>
    have h1 := xline_len hd (h a (List.mem_cons_self ..))
    have h2 := ih fun k hk => h k (List.mem_cons_of_mem _ hk)
    rw [List.flatMap_cons, List.length_append, dlen, sz_cons]
    omega
theorem xbraces_len {l : List Tree} (hd : d + 1 ≤ 3000) (h : ∀ k ∈ l, (R.S (d + 1) k).size + 9000 ≤ 30000 * k.many) : (xBraces R d l).size ≤ 30000 * manyL l + 6003 := by
  have h1 := xlines_len hd h
  have h2 := xIn_len d
  unfold xBraces
  simp only [ByteArray.size_append, bsz, List.size_toArray, List.length_cons, List.length_nil]
  omega
end
def stK (t : Tree) : Prop := sK t ∨ t.kind = 2 ∨ t.kind = 3 ∨ t.kind = 4 ∨ t.kind = 5 ∨ t.kind = 15
structure Len (R : Wr) (f D : Nat) : Prop where
  v : ∀ (t : Tree) (d : Nat), Wx t → vK t → t.many ≤ f → d ≤ D → (R.B d t).size + 9000 ≤ 30000 * t.many
  s : ∀ (t : Tree) (d : Nat), Wx t → stK t → t.many ≤ f → d ≤ D → (R.S d t).size + 9000 ≤ 30000 * t.many
theorem many_list (t : Tree) : t.many = 1 + manyL t.kids := many_eq t
theorem text_len {k : Nat} {tx un : ByteArray} {n : Int} (h : TextOk k tx un n) : tx.size ≤ 300 ∧ un.size ≤ 16 := by
  constructor
  · by_cases h19 : k = 19
    · exact h.st h19
    · cases hn : nameK k
      · rw [h.nt hn h19]; decide
      · exact Nat.le_trans (h.nm hn).le (by decide)
  · rcases h.un with e | e
    · rw [e]; decide
    · exact e.2.le
theorem str_len (s : ByteArray) : (xStr s).size ≤ 2 * s.size + 2 := by
  unfold xStr
  rw [mk_len, List.length_append, List.length_append, ← dlen s]
  have : ∀ l : List UInt8, (l.flatMap escL).length ≤ 2 * l.length := by
    intro l
    induction l with
    | nil => exact Nat.zero_le _
    | cons a l ih =>
      have h1 : (escL a).length ≤ 2 := by
        unfold escL
        split
        · exact Nat.le_refl _
        · split
          · exact Nat.le_refl _
          · exact Nat.le_succ 1
      rw [List.flatMap_cons, List.length_append, List.length_cons]
      omega
  have := this s.data.toList
  simp only [List.length_cons, List.length_nil]
  omega
theorem digits_len : ∀ (k u : Nat), u < 10 ^ (k + 1) → (Lib.decDigits u).length ≤ k + 1
  | 0, u, h => by rw [Lib.decDigits_one (by simpa using h)]; exact Nat.le_refl _
  | k + 1, u, h => by
    rw [Lib.decDigits]
    split
    · exact Nat.succ_le_succ (Nat.zero_le _)
    · rw [List.length_append]
      have := digits_len k (u / 10) (by rw [Nat.div_lt_iff_lt_mul (by decide)]; rw [Nat.pow_succ] at h; exact h)
      simp only [List.length_cons, List.length_nil]
      omega
theorem int_len (n : Int) : (xInt n).size ≤ 400 := by
  unfold xInt
  rw [mk_len]
  have h1 : (n % 18446744073709551616).toNat < 10 ^ 20 := by
    have := Int.emod_lt_of_pos n (show (0 : Int) < 18446744073709551616 by decide)
    have := Int.emod_nonneg n (show (18446744073709551616 : Int) ≠ 0 by decide)
    have h10 : (10 : Nat) ^ 20 = 100000000000000000000 := by decide
    omega
  exact Nat.le_trans (digits_len 19 _ h1) (by decide)
theorem pair_sign : ∀ k, k < 46 → (signOfP k).2 = true → cls k = 4 ∧ (signOfP k).1.1.size ≤ 2 := by decide
theorem xfirst_len {R : Wr} {d : Nat} {t a : Tree} (e : kid t 0 = a) (h : (R.B d a).size + 9000 ≤ 30000 * a.many) : (xFirst R d t).size + 8996 ≤ 30000 * a.many := by
  have := xval_len 1 h
  unfold xFirst
  rw [e]
  split
  · simp only [ByteArray.size_append, bsz, List.size_toArray, List.length_cons, List.length_nil]; omega
  · omega
theorem kid0 {t a : Tree} {l : List Tree} (h : t.kids = a :: l) : kid t 0 = a := by unfold kid; rw [h]; rfl
theorem kid1 {t a b : Tree} {l : List Tree} (h : t.kids = a :: b :: l) : kid t 1 = b := by unfold kid; rw [h]; rfl
theorem kid2 {t a b c : Tree} {l : List Tree} (h : t.kids = a :: b :: c :: l) : kid t 2 = c := by unfold kid; rw [h]; rfl
/-- What is within a block. -/
theorem block_in {b : Tree} (hw : Wx b) (h7 : b.kind = 7) : ∀ k ∈ b.kids, Wx k ∧ stK k := fun k hk => by
  have h := hw.here.2
  rw [h7] at h
  exact ⟨hw.kid hk, Or.inl ((show ∀ k ∈ b.kids, sK k from h) k hk)⟩
theorem params_in {b : Tree} (hw : Wx b) (h6 : b.kind = 6) : ∀ k ∈ b.kids, Wx k ∧ vK k := fun k hk => by
  have h := hw.here.2
  rw [h6] at h
  have := (show b.kids.length ≤ 8 ∧ ∀ k ∈ b.kids, k.kind = 24 from h).2 k hk
  exact ⟨hw.kid hk, by unfold vK; omega⟩
theorem kid_len {R : Wr} {f D d : Nat} {t : Tree} (hR : Len R f D) (hw : Wx t) (hm : t.many ≤ f + 1) (hd : d + 1 ≤ D) {k : Tree} (hk : k ∈ t.kids) (hv : vK k) : (R.B d k).size + 9000 ≤ 30000 * k.many := hR.v k d (hw.kid hk) hv (by have := many_mem hk; rw [many_list] at hm; omega) (by omega)
theorem pa_len {R : Wr} {f D d : Nat} {t : Tree} (hR : Len R f D) (hw : Wx t) (hm : t.many ≤ f + 1) (hd : d + 1 ≤ D) {p : Tree} (hb : p ∈ t.kids) (h6 : p.kind = 6) : (xVals R d p.kids).size + 30000 ≤ 30000 * p.many := by
  have h1 := xvals_len (R := R) (d := d) (l := p.kids) fun k hk => hR.v k d (params_in (hw.kid hb) h6 k hk).1 (params_in (hw.kid hb) h6 k hk).2 (by
    have a1 := many_mem hk
    have a2 := many_mem hb
    rw [many_list] at hm
    have a3 := many_list p
    omega) (by omega)
  rw [many_list p]
  omega
theorem list_len {R : Wr} {f D d : Nat} {t : Tree} (hR : Len R f D) (hw : Wx t) (hm : t.many ≤ f + 1) (hd : d + 1 ≤ D) {l : List Tree} (hl : ∀ k ∈ l, k ∈ t.kids ∧ vK k) : ∀ k ∈ l, (R.B d k).size + 9000 ≤ 30000 * k.many := fun k hk => kid_len hR hw hm hd (hl k hk).1 (hl k hk).2
theorem bl_len {R : Wr} {f D d : Nat} {t : Tree} (hR : Len R f D) (hw : Wx t) (hm : t.many ≤ f + 1) (hd : d + 1 ≤ D) (hD : D ≤ 3000) {b : Tree} (hb : b ∈ t.kids) (h7 : b.kind = 7) : (xBraces R d b.kids).size + 23997 ≤ 30000 * b.many := by
  have h1 := xbraces_len (R := R) (d := d) (l := b.kids) (by omega) fun k hk => hR.s k (d + 1) (block_in (hw.kid hb) h7 k hk).1 (block_in (hw.kid hb) h7 k hk).2 (by
    have a1 := many_mem hk
    have a2 := many_mem hb
    rw [many_list] at hm
    have a3 := many_list b
    omega) hd
  rw [many_list b]
  omega
theorem fun_len {R : Wr} {f D d : Nat} {t : Tree} (hR : Len R f D) (hw : Wx t) (hm : t.many ≤ f + 1) (hd : d + 1 ≤ D) (hD : D ≤ 3000) (h : HereC 2 t.kids) : (xFun R d t).size + 39990 ≤ 30000 * t.many := by
  obtain ⟨p, b, e, h6, h7⟩ := h
  have h1 := pa_len hR hw hm hd (p := p) (by rw [e]; simp) h6
  have h2 := bl_len hR hw hm hd hD (b := b) (by rw [e]; simp) h7
  unfold xFun
  rw [kid0 e, kid1 e, many_list t, e]
  simp only [ByteArray.size_append, bsz, List.size_toArray, List.length_cons, List.length_nil, sz_cons, sz_nil]
  omega
theorem guard_len {R : Wr} {f D d : Nat} {t : Tree} (hR : Len R f D) (hw : Wx t) (hm : t.many ≤ f + 1) (hd : d + 1 ≤ D) (hD : D ≤ 3000) {c b : Tree} {l : List Tree} (e : t.kids = c :: b :: l) (hc : vK c) (h7 : b.kind = 7) : (xGuard R d t).size + 32990 ≤ 30000 * (c.many + b.many) := by
  have h1 := xval_len 1 (kid_len hR hw hm hd (k := c) (by rw [e]; simp) hc)
  have h2 := bl_len hR hw hm hd hD (b := b) (by rw [e]; simp) h7
  unfold xGuard
  rw [kid0 e, kid1 e]
  simp only [ByteArray.size_append, bsz, List.size_toArray, List.length_cons, List.length_nil]
  omega
theorem simple_len {R : Wr} {f D d : Nat} {t : Tree} (hR : Len R f D) (hw : Wx t) (hm : t.many ≤ f + 1) (hd : d + 1 ≤ D) (hD : D ≤ 3000) (hv : vK t) : (xSimple R d t).size + 9000 ≤ 30000 * t.many := by
  have ht := (text_len hw.here.1).1
  have hc := hw.here.2
  have hml := many_list t
  unfold xSimple
  by_cases e : t.kind = 18
  · rw [if_pos e]
    have := int_len t.n; omega
  rw [if_neg e]
  clear e
  by_cases e : t.kind = 19
  · rw [if_pos e]
    have := str_len t.text; omega
  rw [if_neg e]
  clear e
  by_cases e : t.kind = 20
  · rw [if_pos e]
    simp only [bsz, List.size_toArray, List.length_cons, List.length_nil]; omega
  rw [if_neg e]
  clear e
  by_cases e : t.kind = 21
  · rw [if_pos e]
    simp only [bsz, List.size_toArray, List.length_cons, List.length_nil]; omega
  rw [if_neg e]
  clear e
  by_cases e : t.kind = 22
  · rw [if_pos e]
    simp only [bsz, List.size_toArray, List.length_cons, List.length_nil]; omega
  rw [if_neg e]
  clear e
  by_cases e : t.kind = 23
  · rw [if_pos e]
    simp only [bsz, List.size_toArray, List.length_cons, List.length_nil]; omega
  rw [if_neg e]
  clear e
  by_cases e : t.kind = 25
  · rw [if_pos e]
    rw [e] at hc
    have := xargs_len (list_len hR hw hm hd (l := t.kids) fun k hk => ⟨hk, (show _ ∧ ∀ k ∈ t.kids, vK k from hc).2 k hk⟩)
    simp only [ByteArray.size_append, bsz, List.size_toArray, List.length_cons, List.length_nil]
    omega
  rw [if_neg e]
  clear e
  by_cases e : t.kind = 26
  · rw [if_pos e]
    rw [e] at hc
    have := xargs_len (list_len hR hw hm hd (l := t.kids) fun k hk => ⟨hk, (show _ ∧ ∀ k ∈ t.kids, vK k from hc).2 k hk⟩)
    simp only [ByteArray.size_append, bsz, List.size_toArray, List.length_cons, List.length_nil]
    omega
  rw [if_neg e]
  clear e
  by_cases e : t.kind = 27
  · rw [if_pos e]
    rw [e] at hc
    have := xvals_len (list_len hR hw hm hd (l := t.kids) fun k hk => ⟨hk, (show _ ∧ ∀ k ∈ t.kids, vK k from hc).2 k hk⟩)
    simp only [ByteArray.size_append, bsz, List.size_toArray, List.length_cons, List.length_nil]
    omega
  rw [if_neg e]
  clear e
  by_cases e : t.kind = 28
  · rw [if_pos e]
    rw [e] at hc
    have := fun_len hR hw hm hd hD hc
    simp only [ByteArray.size_append, bsz, List.size_toArray, List.length_cons, List.length_nil]
    omega
  rw [if_neg e]
  clear e
  by_cases e : t.kind = 29
  · rw [if_pos e]
    simp only [bsz, List.size_toArray, List.length_cons, List.length_nil]; omega
  rw [if_neg e]
  clear e
  by_cases e : t.kind = 30
  · rw [if_pos e]
    rw [e] at hc
    obtain ⟨a, ea, ha⟩ := (show ∃ a, t.kids = [a] ∧ vK a from hc)
    have := xval_len 1 (kid_len hR hw hm hd (k := a) (by rw [ea]; simp) ha)
    rw [kid0 ea]
    rw [ea, sz_cons, sz_nil] at hml
    simp only [ByteArray.size_append, bsz, List.size_toArray, List.length_cons, List.length_nil]
    omega
  rw [if_neg e]
  clear e
  · omega
theorem bare_len {R : Wr} {f D d : Nat} {t : Tree} (hR : Len R f D) (hw : Wx t) (hm : t.many ≤ f + 1) (hd : d + 1 ≤ D) (hD : D ≤ 3000) (hv : vK t) : (xBare R d t).size + 9000 ≤ 30000 * t.many := by
  have ht := (text_len hw.here.1).1
  have hc := hw.here.2
  have hml := many_list t
  unfold xBare
  by_cases e : (signOfP t.kind).2 = true
  · rw [if_pos e]
    obtain ⟨h4, hs⟩ := pair_sign t.kind (by unfold vK at hv; omega) e
    rw [h4] at hc
    obtain ⟨a, b, ea, ha, hb⟩ := (show ∃ a b, t.kids = [a, b] ∧ vK a ∧ vK b from hc)
    have h1 := xval_len (signOfP t.kind).1.2.2 (kid_len hR hw hm hd (k := a) (by rw [ea]; simp) ha)
    have h2 := xval_len ((signOfP t.kind).1.2.2 + 1) (kid_len hR hw hm hd (k := b) (by rw [ea]; simp) hb)
    rw [kid0 ea, kid1 ea]
    rw [ea, sz_cons, sz_cons, sz_nil] at hml
    simp only [ByteArray.size_append, bsz, List.size_toArray, List.length_cons, List.length_nil]
    omega
  rw [if_neg e]
  clear e
  by_cases e : t.kind = 40
  · rw [if_pos e]
    rw [e] at hc
    obtain ⟨a, ea, ha⟩ := (show ∃ a, t.kids = [a] ∧ vK a from hc)
    have h7 := xval_len 7 (kid_len hR hw hm hd (k := a) (by rw [ea]; simp) ha)
    have h8 := xval_len 8 (kid_len hR hw hm hd (k := a) (by rw [ea]; simp) ha)
    rw [kid0 ea]
    rw [ea, sz_cons, sz_nil] at hml
    simp only [ByteArray.size_append, bsz, List.size_toArray, List.length_cons, List.length_nil]
    omega
  rw [if_neg e]
  clear e
  by_cases e : t.kind = 41
  · rw [if_pos e]
    rw [e] at hc
    obtain ⟨a, ea, ha⟩ := (show ∃ a, t.kids = [a] ∧ vK a from hc)
    have h7 := xval_len 7 (kid_len hR hw hm hd (k := a) (by rw [ea]; simp) ha)
    have h8 := xval_len 8 (kid_len hR hw hm hd (k := a) (by rw [ea]; simp) ha)
    rw [kid0 ea]
    rw [ea, sz_cons, sz_nil] at hml
    simp only [ByteArray.size_append, bsz, List.size_toArray, List.length_cons, List.length_nil]
    omega
  rw [if_neg e]
  clear e
  by_cases e : t.kind = 42
  · rw [if_pos e]
    rw [e] at hc
    obtain ⟨a, ea, ha⟩ := (show ∃ a, t.kids = [a] ∧ vK a from hc)
    have h7 := xval_len 7 (kid_len hR hw hm hd (k := a) (by rw [ea]; simp) ha)
    have h8 := xval_len 8 (kid_len hR hw hm hd (k := a) (by rw [ea]; simp) ha)
    rw [kid0 ea]
    rw [ea, sz_cons, sz_nil] at hml
    simp only [ByteArray.size_append, bsz, List.size_toArray, List.length_cons, List.length_nil]
    omega
  rw [if_neg e]
  clear e
  by_cases e : t.kind = 43
  · rw [if_pos e]
    rw [e] at hc
    obtain ⟨a, l, ea, ha, _, hl⟩ := (show ∃ a l, t.kids = a :: l ∧ vK a ∧ l.length ≤ 8 ∧ ∀ k ∈ l, vK k from hc)
    have h8 := xval_len 8 (kid_len hR hw hm hd (k := a) (by rw [ea]; simp) ha)
    have h9 := xargs_len (list_len hR hw hm hd (l := l) fun k hk => ⟨by rw [ea]; exact List.mem_cons_of_mem _ hk, hl k hk⟩)
    rw [kid0 ea, show t.kids.drop 1 = l by rw [ea]; rfl]
    rw [ea, sz_cons] at hml
    simp only [ByteArray.size_append, bsz, List.size_toArray, List.length_cons, List.length_nil]
    omega
  rw [if_neg e]
  clear e
  by_cases e : t.kind = 44
  · rw [if_pos e]
    rw [e] at hc
    obtain ⟨a, b, ea, ha, hb⟩ := (show ∃ a b, t.kids = [a, b] ∧ vK a ∧ vK b from hc)
    have h1 := xval_len 8 (kid_len hR hw hm hd (k := a) (by rw [ea]; simp) ha)
    have h2 := xval_len 1 (kid_len hR hw hm hd (k := b) (by rw [ea]; simp) hb)
    rw [kid0 ea, kid1 ea]
    rw [ea, sz_cons, sz_cons, sz_nil] at hml
    simp only [ByteArray.size_append, bsz, List.size_toArray, List.length_cons, List.length_nil]
    omega
  rw [if_neg e]
  clear e
  by_cases e : t.kind = 45
  · rw [if_pos e]
    rw [e] at hc
    obtain ⟨a, l, ea, ha, _, hl⟩ := (show ∃ a l, t.kids = a :: l ∧ vK a ∧ l.length ≤ 8 ∧ ∀ k ∈ l, vK k from hc)
    have h0 := kid_len hR hw hm hd (k := a) (by rw [ea]; simp) ha
    have h8 := xval_len 8 h0
    have h9 := xargs_len (list_len hR hw hm hd (l := l) fun k hk => ⟨by rw [ea]; exact List.mem_cons_of_mem _ hk, hl k hk⟩)
    unfold xCalled
    rw [kid0 ea, show t.kids.drop 1 = l by rw [ea]; rfl]
    rw [ea, sz_cons] at hml
    split <;> simp only [ByteArray.size_append, bsz, List.size_toArray, List.length_cons, List.length_nil] <;> omega
  rw [if_neg e]
  clear e
  · exact simple_len hR hw hm hd hD hv
theorem catch_len {R : Wr} {f D d : Nat} {t : Tree} (hR : Len R f D) (hw : Wx t) (hm : t.many ≤ f + 1) (hd : d + 1 ≤ D) (hD : D ≤ 3000) (h15 : t.kind = 15) : (xCatch R d t).size + 53000 ≤ 30000 * t.many := by
  have ht := (text_len hw.here.1).1
  have hc := hw.here.2
  rw [h15] at hc
  obtain ⟨b, ek, h7⟩ := (show ∃ b, t.kids = [b] ∧ b.kind = 7 from hc)
  have hb := bl_len hR hw hm hd hD (b := b) (by rw [ek]; simp) h7
  have hml := many_list t
  unfold xCatch
  rw [kid0 ek]
  rw [ek, sz_cons, sz_nil] at hml
  simp only [ByteArray.size_append, bsz, List.size_toArray, List.length_cons, List.length_nil]
  omega
theorem stm_len {R : Wr} {f D d : Nat} {t : Tree} (hR : Len R f D) (hw : Wx t) (hm : t.many ≤ f + 1) (hd : d + 1 ≤ D) (hD : D ≤ 3000) (hv : stK t) : (xStm R d t).size + 9000 ≤ 30000 * t.many := by
  have ht := (text_len hw.here.1).1
  have hu := (text_len hw.here.1).2
  have hc := hw.here.2
  have hml := many_list t
  have hin := xIn_len d
  unfold xStm
  by_cases e1 : t.kind = 2
  · rw [if_pos e1]
    have e := e1
    rw [e] at hc
    obtain ⟨fs, ms, ek, _, h3, h4⟩ := (show ∃ fs ms, t.kids = fs ++ ms ∧ fs.length ≤ 8 ∧ (∀ k ∈ fs, k.kind = 3) ∧ ∀ k ∈ ms, k.kind = 4 from hc)
    have h1 := xbraces_len (R := R) (d := d) (l := t.kids) (by omega) fun k hk => hR.s k (d + 1) (hw.kid hk) (by
      rw [ek] at hk
      rcases List.mem_append.1 hk with q | q
      · exact Or.inr (Or.inr (Or.inl (h3 k q)))
      · exact Or.inr (Or.inr (Or.inr (Or.inl (h4 k q))))) (by have := many_mem hk; omega) hd
    have h2 : (xUnder t).size ≤ 19 := by
      unfold xUnder
      split
      · decide
      · simp only [ByteArray.size_append, bsz, List.size_toArray, List.length_cons, List.length_nil]; omega
    simp only [ByteArray.size_append, bsz, List.size_toArray, List.length_cons, List.length_nil]
    omega
  rw [if_neg e1]
  by_cases e2 : t.kind = 3
  · rw [if_pos e2]
    have e := e2
    simp only [ByteArray.size_append, bsz, List.size_toArray, List.length_cons, List.length_nil]; omega
  rw [if_neg e2]
  by_cases e3 : t.kind = 4
  · rw [if_pos e3]
    have e := e3
    rw [e] at hc
    have := fun_len hR hw hm hd hD hc
    simp only [ByteArray.size_append, bsz, List.size_toArray, List.length_cons, List.length_nil]
    omega
  rw [if_neg e3]
  by_cases e4 : t.kind = 5
  · rw [if_pos e4]
    have e := e4
    rw [e] at hc
    have := fun_len hR hw hm hd hD hc
    simp only [ByteArray.size_append, bsz, List.size_toArray, List.length_cons, List.length_nil]
    omega
  rw [if_neg e4]
  by_cases e5 : t.kind = 8
  · rw [if_pos e5]
    have e := e5
    rw [e] at hc
    obtain ⟨a, ea, ha⟩ := (show ∃ a, t.kids = [a] ∧ vK a from hc)
    have h7 := xval_len 1 (kid_len hR hw hm hd (k := a) (by rw [ea]; simp) ha)
    rw [kid0 ea]
    rw [ea, sz_cons, sz_nil] at hml
    simp only [ByteArray.size_append, bsz, List.size_toArray, List.length_cons, List.length_nil]
    omega
  rw [if_neg e5]
  by_cases e6 : t.kind = 9
  · rw [if_pos e6]
    have e := e6
    rw [e] at hc
    obtain ⟨a, b, ea, ha, hb, _⟩ := (show ∃ a b, t.kids = [a, b] ∧ vK a ∧ vK b ∧ settable a.kind = true from hc)
    have h1 := xfirst_len (kid0 ea) (kid_len hR hw hm hd (k := a) (by rw [ea]; simp) ha)
    have h2 := xval_len 1 (kid_len hR hw hm hd (k := b) (by rw [ea]; simp) hb)
    rw [kid1 ea]
    rw [ea, sz_cons, sz_cons, sz_nil] at hml
    simp only [ByteArray.size_append, bsz, List.size_toArray, List.length_cons, List.length_nil]
    omega
  rw [if_neg e6]
  by_cases e7 : t.kind = 10
  · rw [if_pos e7]
    have e := e7
    rw [e] at hc
    obtain ⟨c, b, h1, h7, hh⟩ := (show ∃ c b, vK c ∧ b.kind = 7 ∧ (t.kids = [c, b] ∨ ∃ e, t.kids = [c, b, e] ∧ e.kind = 7) from hc)
    unfold xIf
    rcases hh with ek | ⟨x, ek, hx⟩
    · have hg := guard_len hR hw hm hd hD ek h1 h7
      rw [ek, sz_cons, sz_cons, sz_nil] at hml
      rw [if_neg (by rw [ek]; simp)]
      simp only [ByteArray.size_append, bsz, List.size_toArray, List.length_cons, List.length_nil]
      omega
    · have hg := guard_len hR hw hm hd hD ek h1 h7
      have hb := bl_len hR hw hm hd hD (b := x) (by rw [ek]; simp) hx
      rw [kid2 ek, if_pos (by rw [ek]; simp)]
      rw [ek, sz_cons, sz_cons, sz_cons, sz_nil] at hml
      simp only [ByteArray.size_append, bsz, List.size_toArray, List.length_cons, List.length_nil]
      omega
  rw [if_neg e7]
  by_cases e8 : t.kind = 11
  · rw [if_pos e8]
    have e := e8
    rw [e] at hc
    obtain ⟨c, b, ek, h1, h7⟩ := (show ∃ c b, t.kids = [c, b] ∧ vK c ∧ b.kind = 7 from hc)
    have hg := guard_len hR hw hm hd hD ek h1 h7
    rw [ek, sz_cons, sz_cons, sz_nil] at hml
    simp only [ByteArray.size_append, bsz, List.size_toArray, List.length_cons, List.length_nil]
    omega
  rw [if_neg e8]
  by_cases e9 : t.kind = 12
  · rw [if_pos e9]
    have e := e9
    rw [e] at hc
    unfold xRet
    rcases (show t.kids = [] ∨ ∃ a, t.kids = [a] ∧ vK a from hc) with ek | ⟨a, ea, ha⟩
    · rw [if_pos (by rw [ek]; rfl)]
      simp only [bsz, List.size_toArray, List.length_cons, List.length_nil]
      omega
    · have h7 := xval_len 1 (kid_len hR hw hm hd (k := a) (by rw [ea]; simp) ha)
      rw [if_neg (by rw [ea]; simp), kid0 ea]
      rw [ea, sz_cons, sz_nil] at hml
      simp only [ByteArray.size_append, bsz, List.size_toArray, List.length_cons, List.length_nil]
      omega
  rw [if_neg e9]
  by_cases e10 : t.kind = 13
  · rw [if_pos e10]
    have e := e10
    rw [e] at hc
    obtain ⟨a, ea, ha⟩ := (show ∃ a, t.kids = [a] ∧ vK a from hc)
    have h7 := xval_len 1 (kid_len hR hw hm hd (k := a) (by rw [ea]; simp) ha)
    rw [kid0 ea]
    rw [ea, sz_cons, sz_nil] at hml
    simp only [ByteArray.size_append, bsz, List.size_toArray, List.length_cons, List.length_nil]
    omega
  rw [if_neg e10]
  by_cases e11 : t.kind = 14
  · rw [if_pos e11]
    have e := e11
    rw [e] at hc
    obtain ⟨b, c, ek, h7, h15⟩ := (show ∃ b c, t.kids = [b, c] ∧ b.kind = 7 ∧ c.kind = 15 from hc)
    have hb := bl_len hR hw hm hd hD (b := b) (by rw [ek]; simp) h7
    have hs := catch_len hR (hw.kid (by rw [ek]; simp)) (t := c) (d := d) (by rw [ek, sz_cons, sz_cons, sz_nil] at hml; omega) hd hD h15
    rw [kid0 ek, kid1 ek]
    rw [ek, sz_cons, sz_cons, sz_nil] at hml
    simp only [ByteArray.size_append, bsz, List.size_toArray, List.length_cons, List.length_nil]
    omega
  rw [if_neg e11]
  by_cases e12 : t.kind = 15
  · rw [if_pos e12]
    have := catch_len hR hw hm hd hD e12
    omega
  rw [if_neg e12]
  by_cases e13 : t.kind = 16
  · rw [if_pos e13]
    have e := e13
    rw [e] at hc
    obtain ⟨a, ea, ha⟩ := (show ∃ a, t.kids = [a] ∧ vK a from hc)
    have h7 := xval_len 1 (kid_len hR hw hm hd (k := a) (by rw [ea]; simp) ha)
    rw [kid0 ea]
    rw [ea, sz_cons, sz_nil] at hml
    simp only [ByteArray.size_append, bsz, List.size_toArray, List.length_cons, List.length_nil]
    omega
  rw [if_neg e13]
  · have e : t.kind = 17 := by
      unfold stK sK at hv
      omega
    rw [e] at hc
    obtain ⟨a, ea, ha⟩ := (show ∃ a, t.kids = [a] ∧ vK a from hc)
    have h7 := xfirst_len (kid0 ea) (kid_len hR hw hm hd (k := a) (by rw [ea]; simp) ha)
    rw [ea, sz_cons, sz_nil] at hml
    simp only [ByteArray.size_append, bsz, List.size_toArray, List.length_cons, List.length_nil]
    omega
theorem xN_len : ∀ (f D : Nat), f + D ≤ 3000 → Len (xN f) f D
  | 0, D, _ => ⟨fun t d _ _ h => by rw [many_list] at h; omega, fun t d _ _ h => by rw [many_list] at h; omega⟩
  | f + 1, D, h => ⟨fun t d hw hv hm hd => bare_len (xN_len f (D + 1) (by omega)) hw hm (by omega) (by omega) hv, fun t d hw hv hm hd => stm_len (xN_len f (D + 1) (by omega)) hw hm (by omega) (by omega) hv⟩
end Go.Proofs.YtndgajlidckcdaaGreatDoor
