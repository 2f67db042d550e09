/-
  A program that was read has no more nodes than bytes, and one.
  Which error it is: a name that is none, in a statement that has no kind of its own.
  Programs are read, by the law's own function.
-/
import Derived.Test.YtjcoobkpmpjpbaaGreatDoorM27
namespace Go.Proofs.YtjcoobkpmpjpbaaGreatDoor
open Go.RowKit
set_option linter.unusedVariables false

theorem sz_mk {k : Nat} {a b : ByteArray} {n : Int} {ln : Nat} {l : List Tree} : (⟨k, a, b, n, ln, l⟩ : Tree).many = 1 + manyL l := many_eq _
theorem sz_nd {k ln : Nat} {l : List Tree} : (nd k ln l).many = 1 + manyL l := many_eq _
theorem sz_ndT {k ln : Nat} {s : ByteArray} {l : List Tree} : (ndT k s ln l).many = 1 + manyL l := many_eq _
theorem sz_nil : manyL [] = 0 := rfl
theorem sz_cons {t : Tree} {l : List Tree} : manyL (t :: l) = t.many + manyL l := by simp [manyL]
theorem sz_app {l r : List Tree} : manyL (l ++ r) = manyL l + manyL r := by simp [manyL]
/-- What was read is paid for by what was passed. -/
def En {α : Type} (p : Nat) (m : α → Nat) (r : Res α) : Prop := ∀ a S', r = .inr (a, S') → Ok S' ∧ m a + p ≤ S'.tp
def none0 {α : Type} (_ : α) : Nat := 0
section
variable {α β : Type} {m : α → Nat} {m' : β → Nat} {p q : Nat} {S : LS}
theorem nbd {t : Res α} {k : α → LS → Res β} (h : En q m t) (hk : ∀ a S, Ok S → m a + q ≤ S.tp → En p m' (k a S)) : En p m' (bnd t k) := fun b S' e => by
  obtain ⟨a, S1, h1, h2⟩ := bnd_some e
  exact hk a S1 (h a S1 h1).1 (h a S1 h1).2 b S' h2
theorem ni {a : α} (ok : Ok S) (h : m a + p ≤ S.tp) : En p m (.inr (a, S)) := fun _ _ e => by cases e; exact ⟨ok, h⟩
theorem nl {f : Int × Nat} : En p m (.inl f : Res α) := fun _ _ e => by cases e
theorem nf {c : Prop} [Decidable c] {a b : Res α} (ha : c → En p m a) (hb : ¬ c → En p m b) : En p m (if c then a else b) := by
  by_cases h : c
  · rw [if_pos h]; exact ha h
  · rw [if_neg h]; exact hb h
theorem nt {k : Unit → LS → Res β} (ok : Ok S) (hk : S.kd ≠ 0) (h : ∀ S1, Ok S1 → S.tp + 1 ≤ S1.tp → En p m' (k () S1)) : En p m' (bnd (takeP S) k) := fun b S' e => by
  obtain ⟨a, S1, h1, h2⟩ := bnd_some e
  have o := take_on ok hk h1
  exact h S1 o.ok o.tp b S' h2
theorem nw {s : ByteArray} {k : Unit → LS → Res β} (ok : Ok S) (h : ∀ S1, Ok S1 → S.tp + 1 ≤ S1.tp → En p m' (k () S1)) : En p m' (bnd (wantP s S) k) := fun b S' e => by
  obtain ⟨a, S1, h1, h2⟩ := bnd_some e
  have o := want_on ok h1
  exact h S1 o.ok o.tp b S' h2
theorem nn {k : ByteArray → LS → Res β} (ok : Ok S) (h : ∀ s S1, Ok S1 → S.tp + 1 ≤ S1.tp → En p m' (k s S1)) : En p m' (bnd (nameP S) k) := fun b S' e => by
  obtain ⟨a, S1, h1, h2⟩ := bnd_some e
  have o := name_on ok h1
  exact h a S1 o.ok o.tp b S' h2
theorem na {s : ByteArray} {k : Bool → LS → Res β} (ok : Ok S) (h : ∀ b S1, Ok S1 → S.tp ≤ S1.tp → (b = true → S.tp + 1 ≤ S1.tp) → En p m' (k b S1)) : En p m' (bnd (acceptP s S) k) := fun b S' e => by
  obtain ⟨a, S1, h1, h2⟩ := bnd_some e
  have o := accept_on ok h1
  exact h a S1 o.1.ok o.1.tp (fun e => (o.2.1 e).tp) b S' h2
theorem nm {n : Nat} {k : Unit → LS → Res β} (h : En p m' (k () S)) : En p m' (bnd (limitP n S) k) := fun b S' e => by
  obtain ⟨a, S1, h1, h2⟩ := bnd_some e
  rw [limit_on h1] at h2
  exact h b S' h2
end
theorem weaker {P : LS → Res Tree} {S1 : LS} {p : Nat} (h : En S1.tp Tree.many (P S1)) (hp : p ≤ S1.tp) : En p Tree.many (P S1) := fun a S' e => ⟨(h a S' e).1, by have := (h a S' e).2; omega⟩
def Rm (P : LS → Res Tree) : Prop := ∀ S, Ok S → En S.tp Tree.many (P S)
theorem leaf_m {k : Nat} {S : LS} (ok : Ok S) (hk : S.kd ≠ 0) : En S.tp Tree.many (leafP k S) := nt ok hk fun _ o h => ni o (by rw [sz_mk, sz_nil]; omega)
theorem param_m : Rm paramP := fun _ ok => nn ok fun _ _ o h => ni o (by rw [sz_mk, sz_nil]; omega)
theorem listLoop_m {shut : ByteArray} {P : LS → Res Tree} (hP : Rm P) : ∀ (f : Nat) (acc : List Tree) (S : LS) (p : Nat), Ok S → manyL acc + p ≤ S.tp → En p manyL (listLoop shut P f acc S)
  | 0, _, _, _, _, _ => nl
  | f + 1, acc, S, p, ok, h => nm (nbd (hP S ok) fun t S1 o1 h1 => na o1 fun b S2 o2 h2 _ => nf (fun _ => ni o2 (by rw [sz_app, sz_cons, sz_nil]; omega)) fun _ => nw o2 fun S3 o3 h3 => listLoop_m hP f _ S3 p o3 (by rw [sz_app, sz_cons, sz_nil]; omega))
theorem listed_m {shut : ByteArray} {P : LS → Res Tree} (hP : Rm P) (S : LS) (ok : Ok S) : En S.tp manyL (listedP shut P S) := na ok fun b S1 o1 h1 _ => nf (fun _ => ni o1 (by rw [sz_nil]; omega)) fun _ => listLoop_m hP 9 [] S1 S.tp o1 (by rw [sz_nil]; omega)
theorem params_m : Rm paramsP := fun S ok => nw ok fun S1 o1 h1 => nbd (listed_m param_m S1 o1) fun _ _ o2 h2 => ni o2 (by rw [sz_mk]; omega)
theorem until_m {shut : ByteArray} {P : LS → Res Tree} (hP : Rm P) : ∀ (f : Nat) (acc : List Tree) (S : LS) (p : Nat), Ok S → manyL acc + p ≤ S.tp → En p manyL (untilP shut P f acc S)
  | 0, _, _, _, _, _ => nl
  | f + 1, acc, S, p, ok, h => na ok fun b S1 o1 h1 _ => nf (fun _ => ni o1 (by omega)) fun _ => nbd (hP S1 o1) fun t S2 o2 h2 => until_m hP f _ S2 p o2 (by rw [sz_app, sz_cons, sz_nil]; omega)
structure LowM (L : Low) : Prop where
  v : Rm L.V
  s : Rm L.S
  n : Rm L.N
def two (pb : Tree × Tree) : Nat := pb.1.many + pb.2.many
section
variable {L : Low} (hL : LowM L)
include hL
theorem block_m : Rm (blockP L) := fun S ok => nw ok fun S1 o1 h1 => nbd (until_m hL.s 3002 [] S1 S1.tp o1 (by rw [sz_nil]; omega)) fun _ _ o2 h2 => ni o2 (by rw [sz_mk]; omega)
theorem body_m (S : LS) (ok : Ok S) : En S.tp two (bodyP L S) := nbd (params_m S ok) fun _ S1 o1 h1 => nbd (block_m hL S1 o1) fun _ _ o2 h2 => ni o2 (by unfold two; simp only; omega)
theorem inPar_m : Rm (inParP L) := fun S ok => nw ok fun S1 o1 h1 => nbd (hL.v S1 o1) fun _ _ o2 h2 => nw o2 fun _ o3 h3 => ni o3 (by omega)
theorem args_m (S : LS) (ok : Ok S) : En S.tp manyL (argsP L S) := listed_m hL.v S ok
theorem method_m : Rm (methodP L) := fun S ok => nn ok fun _ S2 o2 h2 => nbd (body_m hL S2 o2) fun pb _ o3 h3 => ni o3 (by unfold two at h3; rw [sz_ndT, sz_cons, sz_cons, sz_nil]; omega)
theorem fn_m {S : LS} (ok : Ok S) (hk : S.kd ≠ 0) : En S.tp Tree.many (fnP L S) := nt ok hk fun _ o1 h1 => nn o1 fun _ S2 o2 h2 => nbd (body_m hL S2 o2) fun pb _ o3 h3 => ni o3 (by unfold two at h3; rw [sz_ndT, sz_cons, sz_cons, sz_nil]; omega)
theorem lambda_m {S : LS} (ok : Ok S) (hk : S.kd ≠ 0) : En S.tp Tree.many (lambdaP L S) := nt ok hk fun S1 o1 h1 => nbd (body_m hL S1 o1) fun pb _ o3 h3 => ni o3 (by unfold two at h3; rw [sz_nd, sz_cons, sz_cons, sz_nil]; omega)
end
theorem field_m {n : Nat} {S : LS} (ok : Ok S) (hk : S.kd ≠ 0) : En S.tp Tree.many (fieldP n S) := nt ok hk fun _ o1 h1 => nm (nn o1 fun _ _ o2 h2 => nw o2 fun _ o3 h3 => ni o3 (by rw [sz_ndT, sz_nil]; omega))
theorem fields_m : ∀ (f : Nat) (acc : List Tree) (S : LS) (p : Nat), Ok S → manyL acc + p ≤ S.tp → En p manyL (fieldsP f acc S)
  | 0, _, _, _, _, _ => nl
  | f + 1, acc, S, p, ok, h => nf (fun hi => nbd (field_m ok (is_kd hi)) fun t S1 o1 h1 => fields_m f _ S1 p o1 (by rw [sz_app, sz_cons, sz_nil]; omega)) fun _ => ni ok h
theorem under_m (S : LS) (ok : Ok S) : En S.tp none0 (underP S) := na ok fun _ S1 o1 h1 _ => nf (fun _ => fun a S' e => by
  have o := name_on o1 e
  exact ⟨o.ok, by have := o.tp; unfold none0; omega⟩) fun _ => ni o1 (by unfold none0; omega)
section
variable {L : Low} (hL : LowM L)
include hL
theorem class_m {S : LS} (ok : Ok S) (hk : S.kd ≠ 0) : En S.tp Tree.many (classP L S) := nt ok hk fun _ o1 h1 => nn o1 fun _ S2 o2 h2 => nbd (under_m S2 o2) fun _ _ o3 h3 => nw o3 fun S4 o4 h4 => nbd (fields_m 10 [] S4 S4.tp o4 (by rw [sz_nil]; omega)) fun fs S5 o5 h5 => nbd (until_m (method_m hL) 3002 fs S5 S4.tp o5 h5) fun _ _ o6 h6 => ni o6 (by rw [sz_mk]; omega)
theorem outermost_m : Rm (outermostP L) := fun S ok => nf (fun hi => class_m hL ok (is_kd hi)) fun _ => nf (fun hi => fn_m hL ok (is_kd hi)) fun _ => hL.s S ok
theorem prog_m : ∀ (f : Nat) (acc : List Tree) (S : LS) (p : Nat), Ok S → manyL acc + p ≤ S.tp → En p manyL (progLoop L f acc S)
  | 0, _, _, _, _, _ => nl
  | f + 1, acc, S, p, ok, h => nf (fun _ => ni ok h) fun _ => nbd (outermost_m hL S ok) fun t S1 o1 h1 => prog_m f _ S1 p o1 (by rw [sz_app, sz_cons, sz_nil]; omega)
end
theorem close_m {P : LS → Res Tree} (hP : Rm P) : Rm (closeP P) := fun S ok => nbd (hP S ok) fun _ _ o1 h1 => nw o1 fun _ o2 h2 => ni o2 (by omega)
theorem endP_m {k : Nat} {P : LS → Res Tree} (hP : Rm P) {S : LS} (ok : Ok S) (hk : S.kd ≠ 0) : En S.tp Tree.many (endP k P S) := nt ok hk fun S1 o1 h1 => nbd (close_m hP S1 o1) fun _ _ o2 h2 => ni o2 (by rw [sz_nd, sz_cons, sz_nil]; omega)
section
variable {L : Low} (hL : LowM L)
include hL
theorem variable_m {S : LS} (ok : Ok S) (hk : S.kd ≠ 0) : En S.tp Tree.many (variableP L S) := nt ok hk fun _ o1 h1 => nn o1 fun _ _ o2 h2 => nw o2 fun S3 o3 h3 => nbd (close_m hL.v S3 o3) fun _ _ o4 h4 => ni o4 (by rw [sz_ndT, sz_cons, sz_nil]; omega)
theorem guarded_m {k : Nat} {S : LS} (ok : Ok S) (hk : S.kd ≠ 0) : En S.tp Tree.many (guardedP L k S) := nt ok hk fun S1 o1 h1 => nbd (inPar_m hL S1 o1) fun _ S2 o2 h2 => nbd (block_m hL S2 o2) fun _ _ o3 h3 => ni o3 (by rw [sz_nd, sz_cons, sz_cons, sz_nil]; omega)
theorem choice_m {S : LS} (ok : Ok S) (hk : S.kd ≠ 0) : En S.tp Tree.many (choiceP L S) := nbd (guarded_m hL ok hk) fun t _ o1 h1 => na o1 fun _ S2 o2 h2 _ => nf (fun _ => nbd (block_m hL S2 o2) fun _ _ o3 h3 => ni o3 (by have := many_eq t; rw [sz_mk, sz_app, sz_cons, sz_nil]; unfold manyL at *; omega)) fun _ => ni o2 (by omega)
theorem returned_m {S : LS} (ok : Ok S) (hk : S.kd ≠ 0) : En S.tp Tree.many (returnedP L S) := nt ok hk fun _ o1 h1 => na o1 fun _ S2 o2 h2 _ => nf (fun _ => ni o2 (by rw [sz_nd, sz_nil]; omega)) fun _ => nbd (close_m hL.v S2 o2) fun _ _ o3 h3 => ni o3 (by rw [sz_nd, sz_cons, sz_nil]; omega)
theorem catch_m : Rm (catchP L) := fun S ok => nw ok fun _ o1 h1 => nw o1 fun _ o2 h2 => nn o2 fun _ _ o3 h3 => nw o3 fun S4 o4 h4 => nbd (block_m hL S4 o4) fun _ _ o5 h5 => ni o5 (by rw [sz_ndT, sz_cons, sz_nil]; omega)
theorem try_m {S : LS} (ok : Ok S) (hk : S.kd ≠ 0) : En S.tp Tree.many (tryP L S) := nt ok hk fun S1 o1 h1 => nbd (block_m hL S1 o1) fun _ S2 o2 h2 => nbd (catch_m hL S2 o2) fun _ _ o3 h3 => ni o3 (by rw [sz_nd, sz_cons, sz_cons, sz_nil]; omega)
theorem bare_m : Rm (bareP L) := fun S ok => nbd (hL.v S ok) fun _ _ o1 h1 => nf (fun hi => nf (fun _ => nt o1 (is_kd hi) fun S2 o2 h2 => nbd (hL.v S2 o2) fun _ _ o3 h3 => nw o3 fun _ o4 h4 => ni o4 (by rw [sz_nd, sz_cons, sz_cons, sz_nil]; omega)) fun _ => nl) fun _ => nw o1 fun _ o2 h2 => ni o2 (by rw [sz_nd, sz_cons, sz_nil]; omega)
theorem any_m : Rm (anyP L) := fun S ok => nf (fun hi => variable_m hL ok (is_kd hi)) fun _ => nf (fun hi => choice_m hL ok (is_kd hi)) fun _ => nf (fun hi => guarded_m hL ok (is_kd hi)) fun _ => nf (fun hi => returned_m hL ok (is_kd hi)) fun _ => nf (fun hi => endP_m hL.v ok (is_kd hi)) fun _ => nf (fun hi => endP_m (inPar_m hL) ok (is_kd hi)) fun _ => nf (fun hi => try_m hL ok (is_kd hi)) fun _ => bare_m hL S ok
end
theorem sz_around {k : Nat} {t : Tree} {l : List Tree} : (around k t l).many = 1 + t.many + manyL l := by rw [around, sz_nd, sz_cons]; omega
theorem joinLoop_m {lev : Nat} {P : LS → Res Tree} (hP : Rm P) : ∀ (f : Nat) (t : Tree) (S : LS) (p : Nat), Ok S → t.many + p ≤ S.tp → En p Tree.many (joinLoop lev P f t S)
  | 0, _, _, _, _, _ => nl
  | f + 1, t, S, p, ok, h => nf (fun _ => ni ok h) fun hj => nt ok (joiner_kd hj) fun S1 o1 h1 => nbd (hP S1 o1) fun _ S2 o2 h2 => joinLoop_m hP f _ S2 p o2 (by rw [sz_around, sz_cons, sz_nil]; omega)
theorem jo_m {P : LS → Res Tree} (hP : Rm P) : ∀ (n : Nat), Rm (jo P n)
  | 0 => hP
  | n + 1 => fun S ok => nbd (jo_m hP n S ok) fun t S1 o1 h1 => joinLoop_m (jo_m hP n) 3002 t S1 S.tp o1 h1
section
variable {L : Low} (hL : LowM L)
include hL
theorem member_m {t : Tree} {S : LS} {p : Nat} (ok : Ok S) (h : t.many + p ≤ S.tp) : En p Tree.many (memberP L t S) := nn ok fun _ _ o1 h1 => na o1 fun _ S2 o2 h2 _ => nf (fun _ => nbd (args_m hL S2 o2) fun _ _ o3 h3 => ni o3 (by rw [sz_ndT, sz_cons]; omega)) fun _ => ni o2 (by rw [sz_ndT, sz_cons, sz_nil]; omega)
theorem suf_m : ∀ (f : Nat) (t : Tree) (S : LS) (p : Nat), Ok S → t.many + p ≤ S.tp → En p Tree.many (sufLoop L f t S)
  | 0, _, _, _, _, _ => nl
  | f + 1, t, S, p, ok, h => na ok fun b S1 o1 h1 g1 => nf (fun _ => nbd (member_m hL (p := p) o1 (by omega)) fun u S2 o2 h2 => suf_m f u S2 p o2 h2) fun _ => na o1 fun b S2 o2 h2 g2 => nf (fun e => nbd (hL.v S2 o2) fun _ _ o3 h3 => nw o3 fun S4 o4 h4 => suf_m f _ S4 p o4 (by rw [sz_around, sz_cons, sz_nil]; omega)) fun _ => na o2 fun b S3 o3 h3 g3 => nf (fun e => nbd (args_m hL S3 o3) fun _ S4 o4 h4 => suf_m f _ S4 p o4 (by have := g3 e; rw [sz_around]; omega)) fun _ => ni o3 (by omega)
theorem named_m {k ln : Nat} : Rm (namedP L k ln) := fun S ok => nn ok fun _ _ o1 h1 => nw o1 fun S2 o2 h2 => nbd (args_m hL S2 o2) fun _ _ o3 h3 => ni o3 (by rw [sz_ndT]; omega)
theorem marked_m : Rm (markedP L) := fun S ok => by
  unfold markedP
  exact nf (fun _ => inPar_m hL S ok) fun _ => nf (fun hi => nt ok (is_kd hi) fun S1 o1 h1 => nbd (listed_m hL.v S1 o1) fun _ _ o2 h2 => ni o2 (by rw [sz_nd]; omega)) fun _ => nf (fun hi => lambda_m hL ok (is_kd hi)) fun _ => nf (fun hi => nt ok (is_kd hi) fun S1 o1 h1 => weaker (named_m hL S1 o1) (by omega)) fun _ => nf (fun hi => nt ok (is_kd hi) fun _ o1 h1 => nw o1 fun S2 o2 h2 => weaker (named_m hL S2 o2) (by omega)) fun _ => nf (fun hi => nt ok (is_kd hi) fun _ o1 h1 => nw o1 fun _ o2 h2 => nw o2 fun _ o3 h3 => ni o3 (by rw [sz_nd, sz_nil]; omega)) fun _ => nf (fun hi => nt ok (is_kd hi) fun S1 o1 h1 => nbd (inPar_m hL S1 o1) fun _ _ o2 h2 => ni o2 (by rw [sz_nd, sz_cons, sz_nil]; omega)) fun _ => nl
theorem simple_m : Rm (simpleP L) := fun S ok => nf (fun h => leaf_m ok (by omega)) fun _ => nf (fun h => leaf_m ok (by omega)) fun _ => nf (fun h => leaf_m ok (by omega)) fun _ => nf (fun _ => marked_m hL S ok) fun h => leaf_m ok (const_kd h)
theorem suffixed_m : Rm (suffixedP L) := fun S ok => nbd (simple_m hL S ok) fun t S1 o1 h1 => suf_m hL 3002 t S1 S.tp o1 h1
theorem signed_m {k : Nat} {S : LS} (ok : Ok S) (hk : S.kd ≠ 0) : En S.tp Tree.many (signedP L k S) := nt ok hk fun S1 o1 h1 => nbd (hL.n S1 o1) fun _ _ o2 h2 => ni o2 (by rw [sz_nd, sz_cons, sz_nil]; omega)
theorem prefixed_m : Rm (prefixedP L) := fun S ok => nf (fun hi => signed_m hL ok (is_kd hi)) fun _ => nf (fun hi => signed_m hL ok (is_kd hi)) fun _ => suffixed_m hL S ok
end
theorem deep_m {P : LS → Res Tree} (hP : Rm P) : Rm (deepP P) := fun S ok => nf (fun _ => nl) fun _ => nbd (hP { S with dp := S.dp + 1 } ⟨⟨ok.fit.size, ok.fit.pl, ok.fit.ln⟩, ok.tp, ok.tl, ok.now⟩) fun _ _ o h => ni ⟨⟨o.fit.size, o.fit.pl, o.fit.ln⟩, o.tp, o.tl, o.now⟩ h
theorem lower_m : ∀ d, LowM (lower d)
  | 0 => ⟨fun _ _ => nl, fun _ _ => nl, fun _ _ => nl⟩
  | d + 1 => ⟨deep_m (jo_m (prefixed_m (lower_m d)) 6), deep_m (any_m (lower_m d)), deep_m (prefixed_m (lower_m d))⟩
theorem program_m {S : LS} (ok : Ok S) {t : Tree} {S' : LS} (h : programP (lower 26) S = .inr (t, S')) : Ok S' ∧ t.many + S.tp ≤ S'.tp + 1 := by
  obtain ⟨ks, S1, h1, h2⟩ := bnd_some h
  cases h2
  have := prog_m (lower_m 26) 3002 [] S S.tp ok (by rw [sz_nil]; omega) ks S' h1
  exact ⟨this.1, by rw [sz_nd]; omega⟩
theorem readP_many {s : ByteArray} (hs : s.size ≤ 3000) {v : Value} {t : Tree} {S : LS} (h : readP s v = .inr (t, S)) : t.many ≤ 3001 := by
  unfold readP at h
  split at h
  · cases h
  · rename_i T hT
    have ok := (advP_ok (S := firstS s v) ⟨hs, Nat.zero_le _, Nat.le_refl _⟩ hT).1
    obtain ⟨o, hm⟩ := program_m ok h
    have := o.tp
    have := o.fit.pl
    have := o.fit.size
    omega
theorem many_mem {k : Tree} : ∀ {l : List Tree}, k ∈ l → k.many ≤ manyL l
  | x :: l, h => by
    rw [sz_cons]
    rcases List.mem_cons.1 h with rfl | h
    · omega
    · have := many_mem h
      omega
theorem Lowt.of_many : ∀ (f : Nat) (t : Tree), t.many ≤ f → Lowt f t
  | 0, t, h => by
    have := many_eq t
    omega
  | f + 1, t, h => fun k hk => Lowt.of_many f k (by
    have h1 := many_eq t
    have h2 : k.many ≤ (t.kids.map Tree.many).sum := many_mem hk
    omega)
end Go.Proofs.YtjcoobkpmpjpbaaGreatDoor

namespace Go.Proofs.YtjcoobkpmpjpbaaGreatDoor
open Go.RowKit Go.Maps
set_option linter.unusedSimpArgs false
set_option linter.unusedVariables false

/-- An error with its number and its place; nothing else has turned. -/
def EPost (w : World) (n : Int) (e : Ending) (w' : World) : Prop := Below w.heap.size w w' ∧ ∃ a p, e = .returned (.iface 78 (.pointer (some ⟨a, 0, none⟩))) ∧ w'.cell? ⟨a, 0, none⟩ = some (.int .i64 n) ∧ w'.cell? ⟨a, 1, none⟩ = some (.int .i64 p)

set_option maxRecDepth 100000 in
set_option maxHeartbeats 8000000 in
theorem wrong_at {w : World} {b : Nat} {ln : Nat} (n : Int) (h : w.cell? ⟨b, 4, none⟩ = some (.int .i64 ln)) : Calls Tryz.prog 24 #[.int .i64 n, .pointer (some ⟨b, 0, none⟩)] w fun e w' => EPost w n e w' := by
  go_enter Tryz.func24, Tryz.ntmps24
  go_wp2_with fail
  go_ret
  exact ⟨(Below.refl _ _).alloc (Nat.le_refl _) _, w.heap.size, ln, rfl, hcell (hnew _ _) 0, hcell (hnew _ _) 1⟩

set_option maxRecDepth 100000 in
set_option maxHeartbeats 8000000 in
theorem itself_nameE {M : Nat} {w : World} {tp sp sb N : Nat} {T : Tab} {vc vf : Value} {env : List (List ByteArray)} (h : PlA M w tp sp sb N T vc vf env) (cls : Option Nat) (fn : Bool) {b : Nat} {t : Tree} (hn : NodeAt (fun k => k < M) w (.pointer (some ⟨b, 0, none⟩)) t) (hs : t.text.size ≤ 300) (hk : t.kind = 24) (hR : seesP env t.text = false) :
    Calls Tryz.prog 44 #[plV tp sp cls fn, .pointer (some ⟨b, 0, none⟩)] w fun e w' => EPost w 5 e w' := by
  obtain ⟨ks, hv⟩ := node_view hn
  unfold plV
  have HR := hide hR
  clear hR
  generalize clsV cls = cv
  have hb1 := (Below.refl w.heap.size w).alloc (Nat.le_refl _) (.cells #[.pointer (some ⟨tp, 0, none⟩), .pointer (some ⟨sp, 0, none⟩), .int .i64 cv, .bool fn] 49)
  have p1 := hcell (hnew w (.cells #[.pointer (some ⟨tp, 0, none⟩), .pointer (some ⟨sp, 0, none⟩), .int .i64 cv, .bool fn] 49)) 1
  simp only [List.getElem?_toArray, List.getElem?_cons_zero, List.getElem?_cons_succ] at p1
  have HP1 := hide (h.keep hb1)
  have HN1 := hide (node_keep hn fun k hk => hb1.block k (Nat.lt_of_lt_of_le hk h.hM))
  have HB1 := hide hb1
  have hsz : w.heap.size < (w.alloc (.cells #[.pointer (some ⟨tp, 0, none⟩), .pointer (some ⟨sp, 0, none⟩), .int .i64 cv, .bool fn] 49)).heap.size := by simp
  have e0 := hcellB hb1 hv.c0
  have e1 := hcellB hb1 hv.c1
  have e4 := hcellB hb1 hv.c4
  rw [hk] at e0
  obtain ⟨f, hsc, hse⟩ := (unhide HP1).scope.sees
  have hNs : N ≤ (w.alloc (.cells #[.pointer (some ⟨tp, 0, none⟩), .pointer (some ⟨sp, 0, none⟩), .int .i64 cv, .bool fn] 49)).heap.size := by obtain ⟨f, o, r, _, _, _, h3, _⟩ := (unhide HP1).scope; exact h3
  have s1 : (w.alloc (.cells #[.pointer (some ⟨tp, 0, none⟩), .pointer (some ⟨sp, 0, none⟩), .int .i64 cv, .bool fn] 49)).cell? ⟨sp, 1, none⟩ = some f := hcell hsc 1
  obtain ⟨F, cp, rfl, hent, _⟩ := sees_any hs env N f _ hse hNs
  have HSE := hide hse
  have HNS := hide hNs
  clear h hn hv hb1 hse hNs hsc
  go_enter Tryz.func44, Tryz.ntmps44
  go_wp2_with fail
  generalize w.alloc (.cells #[.pointer (some ⟨tp, 0, none⟩), .pointer (some ⟨sp, 0, none⟩), .int .i64 cv, .bool fn] 49) = W at *
  refine wp_region_held_drew (S := fun w' => w'.cell? ⟨w.heap.size, 1, none⟩ = some (.pointer (some ⟨sp, 0, none⟩)) ∧ w'.cell? ⟨b, 1, none⟩ = some (.string t.text) ∧ w'.cell? ⟨sp, 1, none⟩ = some (.func (.func F) #[] cp)) (by kernel_rfl) ⟨p1, e1, s1⟩ (fun hHeld => ?_)
  refine wpAnyH_take (i := 0) (oi := { dst := some 31, op := _, type := _, pos := _, after := _, guard := _ }) (v := ?_) rfl (by kernel_rfl) (by kernel_rfl) (by kernel_rfl) (fun _ _ _ h => h) (Or.inl ⟨by rfl, ?_⟩) (by assumption) ?_
  case refine_2 =>
    intro w hSw
    try dsimp only at hSw
    go_simp
    try with_reducible rfl
  simp only [Act.put, List.setIfInBounds_toArray, List.set_cons_zero, List.set_cons_succ]
  refine wpAnyH_take (i := 1) (oi := { dst := some 32, op := _, type := _, pos := _, after := _, guard := _ }) (v := ?_) rfl (by kernel_rfl) (by kernel_rfl) (by kernel_rfl) (fun _ _ _ h => h) (Or.inl ⟨by rfl, ?_⟩) (by assumption) ?_
  case refine_2 =>
    intro w hSw
    try dsimp only at hSw
    go_simp
    try with_reducible rfl
  simp only [Act.put, List.setIfInBounds_toArray, List.set_cons_zero, List.set_cons_succ]
  refine wpAnyH_take (i := 2) (oi := { dst := some 33, op := _, type := _, pos := _, after := _, guard := _ }) (v := ?_) rfl (by kernel_rfl) (by kernel_rfl) (by kernel_rfl) (fun _ _ _ h => h) (Or.inl ⟨by rfl, ?_⟩) (by assumption) ?_
  case refine_2 =>
    intro w hSw
    try dsimp only at hSw
    go_simp
    try with_reducible rfl
  simp only [Act.put, List.setIfInBounds_toArray, List.set_cons_zero, List.set_cons_succ]
  refine wpAnyH_take (i := 3) (oi := { dst := some 34, op := _, type := _, pos := _, after := _, guard := _ }) (v := ?_) rfl (by kernel_rfl) (by kernel_rfl) (by kernel_rfl) (fun _ _ _ h => h) (Or.inl ⟨by rfl, ?_⟩) (by assumption) ?_
  case refine_2 =>
    intro w hSw
    try dsimp only at hSw
    go_simp
    try with_reducible rfl
  simp only [Act.put, List.setIfInBounds_toArray, List.set_cons_zero, List.set_cons_succ]
  refine wpAnyH_take (i := 4) (oi := { dst := some 35, op := _, type := _, pos := _, after := _, guard := _ }) (v := ?_) rfl (by kernel_rfl) (by kernel_rfl) (by kernel_rfl) (fun _ _ _ h => h) (Or.inl ⟨by rfl, ?_⟩) (by assumption) ?_
  case refine_2 =>
    intro w hSw
    try dsimp only at hSw
    go_simp
    try with_reducible rfl
  simp only [Act.put, List.setIfInBounds_toArray, List.set_cons_zero, List.set_cons_succ]
  refine wpAnyH_take (i := 5) (oi := { dst := some 36, op := _, type := _, pos := _, after := _, guard := _ }) (v := ?_) rfl (by kernel_rfl) (by kernel_rfl) (by kernel_rfl) (fun _ _ _ h => h) (Or.inl ⟨by rfl, ?_⟩) (by assumption) ?_
  case refine_2 =>
    intro w hSw
    try dsimp only at hSw
    go_simp
    try with_reducible rfl
  simp only [Act.put, List.setIfInBounds_toArray, List.set_cons_zero, List.set_cons_succ]
  refine wpAnyH_take (i := 6) (oi := { dst := some 37, op := _, type := _, pos := _, after := _, guard := _ }) (v := ?_) rfl (by kernel_rfl) (by kernel_rfl) (by kernel_rfl) (fun _ _ _ h => h) (Or.inl ⟨by rfl, ?_⟩) (by assumption) ?_
  case refine_2 =>
    intro w hSw
    try dsimp only at hSw
    go_simp
    try with_reducible rfl
  simp only [Act.put, List.setIfInBounds_toArray, List.set_cons_zero, List.set_cons_succ]
  refine wpAnyH_take (i := 7) (oi := { dst := some 38, op := _, type := _, pos := _, after := _, guard := _ }) (v := ?_) rfl (by kernel_rfl) (by kernel_rfl) (by kernel_rfl) (fun _ _ _ h => h) (Or.inl ⟨by rfl, ?_⟩) (by assumption) ?_
  case refine_2 =>
    intro w hSw
    try dsimp only at hSw
    go_simp
    try with_reducible rfl
  simp only [Act.put, List.setIfInBounds_toArray, List.set_cons_zero, List.set_cons_succ]
  refine wpAnyH_take (i := 8) (oi := { dst := some 39, op := _, type := _, pos := _, after := _, guard := _ }) (v := ?_) rfl (by kernel_rfl) (by kernel_rfl) (by kernel_rfl) (fun _ _ _ h => h) (Or.inl ⟨by rfl, ?_⟩) (by assumption) ?_
  case refine_2 =>
    intro w hSw
    try dsimp only at hSw
    go_simp
    try with_reducible rfl
  simp only [Act.put, List.setIfInBounds_toArray, List.set_cons_zero, List.set_cons_succ]
  obtain ⟨F', cp', eF, _, hcall⟩ := sees_any hs env N (.func (.func F) #[] cp) W.drew ((unhide HSE).keep fun k hk => rfl) (unhide HNS)
  cases eF
  refine wpAnyH_ready (rs := [9]) (by kernel_rfl) (by simp) ?_
  refine AllReadyH.cons (o := { dst := some 40, op := _, type := _, pos := _, after := _, guard := _ }) rfl (fun K hK => ?_) AllReadyH.nil
  refine step_enterG (by kernel_rfl) (by simp [Act.eval, hent, go_sem]) (hcall.mono ?_)
  rintro e W3 ⟨rfl, hb3⟩
  have HB3 := hide ((Below.drew (unhide HB1)).trans (hb3.mono (unhide HB1).size))
  have z1 := cellB hb3 p1 hsz
  have z2 := hcellB hb3 e1
  have z3 := hcellB hb3 s1
  have z4 := hcellB hb3 e4
  clear hb3
  refine hK.out _ _ ⟨z1, z2, z3⟩ (fun hHeld9 => ?_)
  clear hK K
  simp only [Act.put, List.setIfInBounds_toArray, List.set_cons_zero, List.set_cons_succ]
  have hsee := unhide HR
  rw [hsee]
  clear hsee
  refine wpAnyH_take (i := 10) (oi := { dst := some 41, op := _, type := _, pos := _, after := _, guard := _ }) (v := ?_) rfl (by kernel_rfl) (by kernel_rfl) (by kernel_rfl) (fun _ _ _ h => h) (Or.inl ⟨by rfl, ?_⟩) (by assumption) ?_
  case refine_2 =>
    intro w hSw
    try dsimp only at hSw
    go_simp
    try with_reducible rfl
  simp only [Act.put, List.setIfInBounds_toArray, List.set_cons_zero, List.set_cons_succ]
  refine wpAnyH_done (by kernel_rfl) ?_ _
  go_wp2_with fail
  refine (wrong_at 5 z4).mono ?_
  rintro e W9 ⟨hb9, a9, p9, rfl, q0, q1⟩
  have HB9 := hide ((unhide HB3).trans (hb9.mono (unhide HB3).size))
  clear hb9
  go_wp2_with fail
  go_ret
  exact ⟨unhide HB9, a9, p9, rfl, by assumption, by assumption⟩

set_option maxRecDepth 100000 in
set_option maxHeartbeats 8000000 in
theorem node_nameE {M : Nat} {tp : Nat} {T : Tab} {vc vf : Value} {cls : Option Nat} {fn : Bool} (hcls : ClsOk T.cs cls) (hwc : ∀ c ∈ T.cs, Wf c) (hwf : ∀ g ∈ T.fns, ∃ p q, g.kids = p :: q) {w : World} {sp b N : Nat} {env : List (List ByteArray)} {bn : Nat} {t : Tree} (h : PlA M w tp sp b N T vc vf env) (hnd : NodeAt (fun k => k < M) w (.pointer (some ⟨bn, 0, none⟩)) t) (hw : Wf t) (hk : t.kind = 24) (hs0 : seesP env t.text = false) (h2 : t.kind ≠ 2) (h4 : t.kind ≠ 4) (h5 : t.kind ≠ 5) (h28 : t.kind ≠ 28) (h7 : t.kind ≠ 7) (h15 : t.kind ≠ 15) (h8 : t.kind ≠ 8) (h45 : t.kind ≠ 45) :
    Calls Tryz.prog 30 #[plV tp sp cls fn, .pointer (some ⟨bn, 0, none⟩)] w fun e w' => EPost w 5 e w' := by
  obtain ⟨ks, hv⟩ := node_view hnd
  have HLT : Hid (bn < w.heap.size) := Nat.lt_of_lt_of_le hv.lt h.hM
  have HKL0 := hide hv.kids
  obtain ⟨kg, kcap, rfl, hkm, _⟩ := hv.kids
  have HMK := hide (many_kids t)
  have HW := hide hw
  have HCLS := hide hcls
  have H := hide h
  have HM := hide h.hM
  have HK24 := hide hk
  have HS0 := hide hs0
  have hb1 := (Below.refl w.heap.size w).alloc (Nat.le_refl _) (.cells #[.pointer (some ⟨tp, 0, none⟩), .pointer (some ⟨sp, 0, none⟩), .int .i64 (clsV cls), .bool fn] 49)
  have HX1 := hide (hnew w (.cells #[.pointer (some ⟨tp, 0, none⟩), .pointer (some ⟨sp, 0, none⟩), .int .i64 (clsV cls), .bool fn] 49))
  have HP1 := hide (h.keep hb1)
  have HN1 := hide (node_keep hnd fun k hk => hb1.block k (Nat.lt_of_lt_of_le hk h.hM))
  have c0 := hcellB hb1 hv.c0
  have c1 := hcellB hb1 hv.c1
  have c5 := hcellB hb1 hv.c5
  obtain ⟨z0, z1, z2, z3⟩ := box_cells (unhide HX1)
  have HWC := hide hwc
  have HWF := hide hwf
  have HB1 := hide hb1
  have dd2 : ((t.kind : Int) == 2) = false := by simpa using fun q : (t.kind : Int) = 2 => h2 (by omega)
  have ff2 : ¬ ((t.kind : Int) = 2) := fun q => h2 (by omega)
  have dd4 : ((t.kind : Int) == 4) = false := by simpa using fun q : (t.kind : Int) = 4 => h4 (by omega)
  have ff4 : ¬ ((t.kind : Int) = 4) := fun q => h4 (by omega)
  have dd5 : ((t.kind : Int) == 5) = false := by simpa using fun q : (t.kind : Int) = 5 => h5 (by omega)
  have ff5 : ¬ ((t.kind : Int) = 5) := fun q => h5 (by omega)
  have dd28 : ((t.kind : Int) == 28) = false := by simpa using fun q : (t.kind : Int) = 28 => h28 (by omega)
  have ff28 : ¬ ((t.kind : Int) = 28) := fun q => h28 (by omega)
  have dd7 : ((t.kind : Int) == 7) = false := by simpa using fun q : (t.kind : Int) = 7 => h7 (by omega)
  have ff7 : ¬ ((t.kind : Int) = 7) := fun q => h7 (by omega)
  have dd15 : ((t.kind : Int) == 15) = false := by simpa using fun q : (t.kind : Int) = 15 => h15 (by omega)
  have ff15 : ¬ ((t.kind : Int) = 15) := fun q => h15 (by omega)
  have dd8 : ((t.kind : Int) == 8) = false := by simpa using fun q : (t.kind : Int) = 8 => h8 (by omega)
  have ff8 : ¬ ((t.kind : Int) = 8) := fun q => h8 (by omega)
  have dd45 : ((t.kind : Int) == 45) = false := by simpa using fun q : (t.kind : Int) = 45 => h45 (by omega)
  have ff45 : ¬ ((t.kind : Int) = 45) := fun q => h45 (by omega)
  unfold plV
  obtain ⟨cv, hcv⟩ : ∃ cv, clsV cls = cv := ⟨_, rfl⟩
  have HCV := hide hcv
  simp only [hcv] at z0 z1 z2 z3 c0 c1 c5 HX1 HP1 HN1 HB1 ⊢
  clear hk hs0 hcv h hnd hw hcls hwc hwf hv hb1 hkm  h2 h4 h5 h28 h7 h15 h8 h45
  go_enter Tryz.func30, Tryz.ntmps30
  go_wp2_with fail
  generalize w.alloc (.cells #[.pointer (some ⟨tp, 0, none⟩), .pointer (some ⟨sp, 0, none⟩), .int .i64 cv, .bool fn] 49) = W at *
  have hc0 := itself_nameE (unhide HP1) cls fn (unhide HN1) (unhide HW).here.2.1 (unhide HK24) (unhide HS0)
  unfold plV at hc0
  rw [unhide HCV] at hc0
  refine hc0.mono ?_
  clear hc0
  rintro e W2 ⟨hb2, a9, p9, rfl, q0, q1⟩
  have HB2 := hide ((unhide HB1).trans (hb2.mono (unhide HB1).size))
  clear hb2 z0 z1 z2 z3 c0 c1 c5
  go_wp2_with fail
  go_ret
  exact ⟨unhide HB2, a9, p9, rfl, by assumption, by assumption⟩

set_option maxRecDepth 100000 in
set_option maxHeartbeats 8000000 in
theorem node_otherE {M : Nat} {tp : Nat} {T : Tab} {vc vf : Value} {cls : Option Nat} {fn : Bool} (hcls : ClsOk T.cs cls) (hwc : ∀ c ∈ T.cs, Wf c) (hwf : ∀ g ∈ T.fns, ∃ p q, g.kids = p :: q) {w : World} {sp b N : Nat} {env : List (List ByteArray)} {bn : Nat} {t : Tree} (h : PlA M w tp sp b N T vc vf env) (hnd : NodeAt (fun k => k < M) w (.pointer (some ⟨bn, 0, none⟩)) t) (hw : Wf t) (hi0 : itselfP T cls fn env t = true) (HALL : Hid (∀ (w2 : World) (v : Value), PlA M w2 tp sp b N T vc vf env → ListAt M w2 v t.kids → Calls Tryz.prog 15 #[plV tp sp cls fn, v] w2 fun e w' => EPost w2 5 e w')) (h2 : t.kind ≠ 2) (h4 : t.kind ≠ 4) (h5 : t.kind ≠ 5) (h28 : t.kind ≠ 28) (h7 : t.kind ≠ 7) (h15 : t.kind ≠ 15) (h8 : t.kind ≠ 8) (h45 : t.kind ≠ 45) :
    Calls Tryz.prog 30 #[plV tp sp cls fn, .pointer (some ⟨bn, 0, none⟩)] w fun e w' => EPost w 5 e w' := by
  obtain ⟨ks, hv⟩ := node_view hnd
  have HLT : Hid (bn < w.heap.size) := Nat.lt_of_lt_of_le hv.lt h.hM
  have HKL0 := hide hv.kids
  obtain ⟨kg, kcap, rfl, hkm, _⟩ := hv.kids
  have HMK := hide (many_kids t)
  have HW := hide hw
  have HCLS := hide hcls
  have H := hide h
  have HM := hide h.hM
  have HI0 := hide hi0
  have hb1 := (Below.refl w.heap.size w).alloc (Nat.le_refl _) (.cells #[.pointer (some ⟨tp, 0, none⟩), .pointer (some ⟨sp, 0, none⟩), .int .i64 (clsV cls), .bool fn] 49)
  have HX1 := hide (hnew w (.cells #[.pointer (some ⟨tp, 0, none⟩), .pointer (some ⟨sp, 0, none⟩), .int .i64 (clsV cls), .bool fn] 49))
  have HP1 := hide (h.keep hb1)
  have HN1 := hide (node_keep hnd fun k hk => hb1.block k (Nat.lt_of_lt_of_le hk h.hM))
  have c0 := hcellB hb1 hv.c0
  have c1 := hcellB hb1 hv.c1
  have c5 := hcellB hb1 hv.c5
  obtain ⟨z0, z1, z2, z3⟩ := box_cells (unhide HX1)
  have HWC := hide hwc
  have HWF := hide hwf
  have HB1 := hide hb1
  have dd2 : ((t.kind : Int) == 2) = false := by simpa using fun q : (t.kind : Int) = 2 => h2 (by omega)
  have ff2 : ¬ ((t.kind : Int) = 2) := fun q => h2 (by omega)
  have dd4 : ((t.kind : Int) == 4) = false := by simpa using fun q : (t.kind : Int) = 4 => h4 (by omega)
  have ff4 : ¬ ((t.kind : Int) = 4) := fun q => h4 (by omega)
  have dd5 : ((t.kind : Int) == 5) = false := by simpa using fun q : (t.kind : Int) = 5 => h5 (by omega)
  have ff5 : ¬ ((t.kind : Int) = 5) := fun q => h5 (by omega)
  have dd28 : ((t.kind : Int) == 28) = false := by simpa using fun q : (t.kind : Int) = 28 => h28 (by omega)
  have ff28 : ¬ ((t.kind : Int) = 28) := fun q => h28 (by omega)
  have dd7 : ((t.kind : Int) == 7) = false := by simpa using fun q : (t.kind : Int) = 7 => h7 (by omega)
  have ff7 : ¬ ((t.kind : Int) = 7) := fun q => h7 (by omega)
  have dd15 : ((t.kind : Int) == 15) = false := by simpa using fun q : (t.kind : Int) = 15 => h15 (by omega)
  have ff15 : ¬ ((t.kind : Int) = 15) := fun q => h15 (by omega)
  have dd8 : ((t.kind : Int) == 8) = false := by simpa using fun q : (t.kind : Int) = 8 => h8 (by omega)
  have ff8 : ¬ ((t.kind : Int) = 8) := fun q => h8 (by omega)
  have dd45 : ((t.kind : Int) == 45) = false := by simpa using fun q : (t.kind : Int) = 45 => h45 (by omega)
  have ff45 : ¬ ((t.kind : Int) = 45) := fun q => h45 (by omega)
  unfold plV
  obtain ⟨cv, hcv⟩ : ∃ cv, clsV cls = cv := ⟨_, rfl⟩
  have HCV := hide hcv
  simp only [hcv] at z0 z1 z2 z3 c0 c1 c5 HX1 HP1 HN1 HB1 ⊢
  clear hi0 hcv h hnd hw hcls hwc hwf hv hb1 hkm  h2 h4 h5 h28 h7 h15 h8 h45
  go_enter Tryz.func30, Tryz.ntmps30
  go_wp2_with fail
  generalize w.alloc (.cells #[.pointer (some ⟨tp, 0, none⟩), .pointer (some ⟨sp, 0, none⟩), .int .i64 cv, .bool fn] 49) = W at *
  have hc0 := itself_any (unhide HP1) (unhide HCLS) fn (unhide HN1) (unhide HW) (unhide HWC) (unhide HWF)
  unfold plV at hc0
  rw [unhide HCV] at hc0
  refine hc0.mono ?_
  clear hc0
  rintro e W2 ⟨hb2, hor⟩
  have y0 := hcellB hb2 z0
  have y1 := hcellB hb2 z1
  have y2 := hcellB hb2 z2
  have y3 := hcellB hb2 z3
  have d0 := hcellB hb2 c0
  have d1 := hcellB hb2 c1
  have d5 := hcellB hb2 c5
  have HX2 := hide ((hb2.block _ (cell_ltK z0)).trans (unhide HX1))
  have HB2 := hide ((unhide HB1).trans (hb2.mono (unhide HB1).size))
  have HP2 := hide ((unhide HP1).keep hb2)
  have HN2 := hide (node_keep (unhide HN1) fun k hk => hb2.block k (Nat.lt_of_lt_of_le hk (unhide HP1).hM))
  have HKL := hide ((unhide HKL0).keep fun k hk => (unhide HB2).block k (Nat.lt_of_lt_of_le hk (unhide HM)))
  clear hb2 z0 z1 z2 z3 c0 c1 c5 HX1 HB1 HP1 HN1 HKL0
  have hi := unhide HI0
  rcases hor with ⟨_, rfl⟩ | ⟨hi2, _⟩
  rotate_left
  · rw [hi] at hi2
    cases hi2
  clear hi
  have entL : ∀ (w : World), Sem.run Tryz.prog (callFunc 15 #[.agg #[.pointer (some ⟨tp, 0, none⟩), .pointer (some ⟨sp, 0, none⟩), .int .i64 cv, .bool fn], .slice kg t.kids.length kcap]) w = .ok (.enter 15 #[.agg #[.pointer (some ⟨tp, 0, none⟩), .pointer (some ⟨sp, 0, none⟩), .int .i64 cv, .bool fn], .slice kg t.kids.length kcap]) w := fun _ => by kernel_rfl
  have HNM := hide (unhide HP2).scope.own
  go_wp2_with fail
  refine wp_region_held_drew (S := fun w' => w'.cell? ⟨w.heap.size, 0, none⟩ = some (.pointer (some ⟨tp, 0, none⟩)) ∧ w'.cell? ⟨w.heap.size, 1, none⟩ = some (.pointer (some ⟨sp, 0, none⟩)) ∧ w'.cell? ⟨w.heap.size, 2, none⟩ = some (.int .i64 cv) ∧ w'.cell? ⟨w.heap.size, 3, none⟩ = some (.bool fn) ∧ w'.cell? ⟨bn, 5, none⟩ = some (.slice kg t.kids.length kcap)) (by kernel_rfl) ⟨y0, y1, y2, y3, d5⟩ (fun hHeld => ?_)
  refine wpAnyH_take (i := 0) (oi := { dst := some 115, op := _, type := _, pos := _, after := _, guard := _ }) (v := ?_) rfl (by kernel_rfl) (by kernel_rfl) (by kernel_rfl) (fun _ _ _ h => h) (Or.inl ⟨by rfl, ?_⟩) (by assumption) ?_
  case refine_2 =>
    intro w hSw
    try dsimp only at hSw
    go_simp
    try with_reducible rfl
  simp only [Act.put, List.setIfInBounds_toArray, List.set_cons_zero, List.set_cons_succ]
  refine wpAnyH_take (i := 1) (oi := { dst := some 116, op := _, type := _, pos := _, after := _, guard := _ }) (v := ?_) rfl (by kernel_rfl) (by kernel_rfl) (by kernel_rfl) (fun _ _ _ h => h) (Or.inl ⟨by rfl, ?_⟩) (by assumption) ?_
  case refine_2 =>
    intro w hSw
    try dsimp only at hSw
    go_simp
    try with_reducible rfl
  simp only [Act.put, List.setIfInBounds_toArray, List.set_cons_zero, List.set_cons_succ]
  refine wpAnyH_take (i := 2) (oi := { dst := some 117, op := _, type := _, pos := _, after := _, guard := _ }) (v := ?_) rfl (by kernel_rfl) (by kernel_rfl) (by kernel_rfl) (fun _ _ _ h => h) (Or.inl ⟨by rfl, ?_⟩) (by assumption) ?_
  case refine_2 =>
    intro w hSw
    try dsimp only at hSw
    go_simp
    try with_reducible rfl
  simp only [Act.put, List.setIfInBounds_toArray, List.set_cons_zero, List.set_cons_succ]
  refine wpAnyH_take (i := 3) (oi := { dst := some 118, op := _, type := _, pos := _, after := _, guard := _ }) (v := ?_) rfl (by kernel_rfl) (by kernel_rfl) (by kernel_rfl) (fun _ _ _ h => h) (Or.inl ⟨by rfl, ?_⟩) (by assumption) ?_
  case refine_2 =>
    intro w hSw
    try dsimp only at hSw
    go_simp
    try with_reducible rfl
  simp only [Act.put, List.setIfInBounds_toArray, List.set_cons_zero, List.set_cons_succ]
  refine wpAnyH_take (i := 4) (oi := { dst := some 119, op := _, type := _, pos := _, after := _, guard := _ }) (v := ?_) rfl (by kernel_rfl) (by kernel_rfl) (by kernel_rfl) (fun _ _ _ h => h) (Or.inl ⟨by rfl, ?_⟩) (by assumption) ?_
  case refine_2 =>
    intro w hSw
    try dsimp only at hSw
    go_simp
    try with_reducible rfl
  simp only [Act.put, List.setIfInBounds_toArray, List.set_cons_zero, List.set_cons_succ]
  have hc0 := unhide HALL W2.drew (.slice kg t.kids.length kcap) (unhide HP2).drew ((unhide HKL).keep fun _ _ => rfl)
  unfold plV at hc0
  rw [unhide HCV] at hc0
  refine wpAnyH_ready (rs := [5]) (by kernel_rfl) (by simp) ?_
  refine AllReadyH.cons (o := { dst := some 120, op := _, type := _, pos := _, after := _, guard := _ }) rfl (fun K hK => ?_) AllReadyH.nil
  refine step_enterG (by kernel_rfl) (by simp [Act.eval, entL, go_sem]) (hc0.mono ?_)
  rintro e W3 ⟨hb3, a9, p9, rfl, q0, q1⟩
  have qy0 := cellB hb3 y0 (cell_ltK y0)
  have qy1 := cellB hb3 y1 (cell_ltK y1)
  have qy2 := cellB hb3 y2 (cell_ltK y2)
  have qy3 := cellB hb3 y3 (cell_ltK y3)
  have qd5 := cellB hb3 d5 (cell_ltK d5)
  have HB3 := hide ((unhide HB2).trans ((Below.drew (Below.refl W2.heap.size W2)).trans hb3 |>.mono (unhide HB2).size))
  have HQ0 := hide q0
  have HQ1 := hide q1
  clear hb3 hc0 y0 y1 y2 y3 d5 q0 q1
  refine hK.out _ _ ⟨qy0, qy1, qy2, qy3, qd5⟩ (fun hHeldC => ?_)
  clear hK K
  simp only [Act.put, List.setIfInBounds_toArray, List.set_cons_zero, List.set_cons_succ]
  refine wpAnyH_take (i := 6) (oi := { dst := some 4, op := _, type := _, pos := _, after := _, guard := _ }) (v := ?_) rfl (by kernel_rfl) (by kernel_rfl) (by kernel_rfl) (fun _ _ _ h => h) (Or.inl ⟨by rfl, ?_⟩) (by assumption) ?_
  case refine_2 =>
    intro w hSw
    try dsimp only at hSw
    go_simp
    try with_reducible rfl
  simp only [Act.put, List.setIfInBounds_toArray, List.set_cons_zero, List.set_cons_succ]
  refine wpAnyH_done (by kernel_rfl) ?_ _
  clear hHeld hHeldC
  go_wp2_with fail
  go_ret
  exact ⟨unhide HB3, a9, p9, rfl, unhide HQ0, unhide HQ1⟩

set_option maxRecDepth 100000 in
set_option maxHeartbeats 8000000 in
theorem all_oneE {M : Nat} {tp : Nat} {T : Tab} {vc vf : Value} {cls : Option Nat} {fn : Bool} {w : World} {sp b N : Nat} {env : List (List ByteArray)} (h : PlA M w tp sp b N T vc vf env) {v : Value} {t : Tree} (HN : Hid (∀ (w2 : World) (bn : Nat), PlA M w2 tp sp b N T vc vf env → NodeAt (fun k => k < M) w2 (.pointer (some ⟨bn, 0, none⟩)) t → Calls Tryz.prog 30 #[plV tp sp cls fn, .pointer (some ⟨bn, 0, none⟩)] w2 fun e w' => EPost w2 5 e w')) (hl : ListAt M w v [t]) :
    Calls Tryz.prog 15 #[plV tp sp cls fn, v] w fun e w' => EPost w 5 e w' := by
  obtain ⟨g, cap, rfl, _, hat⟩ := hl
  obtain ⟨a, bn, rfl, ha, hc, hnd⟩ := hat 0 t rfl
  have hb1 := fun o => (Below.refl w.heap.size w).alloc (Nat.le_refl _) o
  have HP1 := hide (fun o => h.keep (hb1 o))
  have HN1 := hide (fun o => node_keep hnd fun k hk => (hb1 o).block k (Nat.lt_of_lt_of_le hk h.hM))
  have HB1 := hide hb1
  have la := Nat.lt_of_lt_of_le ha h.hM
  unfold plV
  obtain ⟨cv, hcv⟩ : ∃ cv, clsV cls = cv := ⟨_, rfl⟩
  have HCV := hide hcv
  rw [hcv]
  have hx := hnew w (.cells #[.pointer (some ⟨tp, 0, none⟩), .pointer (some ⟨sp, 0, none⟩), .int .i64 cv, .bool fn] 49)
  obtain ⟨z0, z1, z2, z3⟩ := box_cells hx
  have hc1 := cellB (hb1 (.cells #[.pointer (some ⟨tp, 0, none⟩), .pointer (some ⟨sp, 0, none⟩), .int .i64 cv, .bool fn] 49)) hc la
  have hlen : ([t] : List Tree).length = 1 := rfl
  rw [hlen]
  clear h hat hnd hb1 hcv hx hlen hc
  go_enter Tryz.func15, Tryz.ntmps15
  go_wp2_with fail
  have HP2 := hide (unhide HP1 (.cells #[.pointer (some ⟨tp, 0, none⟩), .pointer (some ⟨sp, 0, none⟩), .int .i64 cv, .bool fn] 49))
  have HN2 := hide (unhide HN1 (.cells #[.pointer (some ⟨tp, 0, none⟩), .pointer (some ⟨sp, 0, none⟩), .int .i64 cv, .bool fn] 49))
  have HB2 := hide (unhide HB1 (.cells #[.pointer (some ⟨tp, 0, none⟩), .pointer (some ⟨sp, 0, none⟩), .int .i64 cv, .bool fn] 49))
  generalize w.alloc (.cells #[.pointer (some ⟨tp, 0, none⟩), .pointer (some ⟨sp, 0, none⟩), .int .i64 cv, .bool fn] 49) = W at *
  clear HP1 HN1 HB1
  refine wp_loop_rounds 1 ?_
  rw [rounds_succ]
  go_wp2_with fail
  have hc0 := unhide HN W bn (unhide HP2) (unhide HN2)
  unfold plV at hc0
  rw [unhide HCV] at hc0
  refine hc0.mono ?_
  clear hc0
  rintro e W3 ⟨hb3, a9, p9, rfl, q0, q1⟩
  have HB3 := hide ((unhide HB2).trans (hb3.mono (unhide HB2).size))
  have HQ0 := hide q0
  have HQ1 := hide q1
  clear hb3 q0 q1
  go_wp2_with fail
  go_ret
  exact ⟨unhide HB3, a9, p9, rfl, unhide HQ0, unhide HQ1⟩
end Go.Proofs.YtjcoobkpmpjpbaaGreatDoor

namespace Go.Proofs.YtjcoobkpmpjpbaaGreatDoor
open Go.RowKit

/-- The program that a text tells, if it does. -/
def parseT (s : ByteArray) (v : Value) : Option Tree := if 3000 < s.size then none else match readP s v with
  | .inl _ => none
  | .inr x => if 1200 < wrap64 (x.1.many : Int) then none else some x.1

theorem readP_kind {s : ByteArray} {v : Value} {t : Tree} {S : LS} (h : readP s v = .inr (t, S)) : t.kind = 1 := by
  unfold readP at h
  split at h
  · cases h
  · obtain ⟨ks, S1, _, h2⟩ := bnd_some h
    cases h2
    rfl
theorem parseT_kind {s : ByteArray} {v : Value} {t : Tree} (h : parseT s v = some t) : t.kind = 1 := by
  unfold parseT at h
  split at h
  · cases h
  · split at h
    · cases h
    · rename_i x hx
      split at h
      · cases h
      · cases h
        exact readP_kind (S := x.2) hx
theorem parseT_size {s : ByteArray} {v : Value} {t : Tree} (h : parseT s v = some t) : s.size ≤ 3000 := by
  unfold parseT at h
  split at h
  · cases h
  · omega

/-- How Parse comes back, in short. -/
def ParseIs (lo : Nat) (s : ByteArray) (vn ve : Value) (w' : World) : Prop :=
  (∃ t b, parseT s (jval (lo + 2) 1) = some t ∧ vn = .pointer (some ⟨b, 0, none⟩) ∧ NodeAt (fun j => lo ≤ j) w' (.pointer (some ⟨b, 0, none⟩)) t ∧ ve = .nilIface) ∨
  (parseT s (jval (lo + 2) 1) = none ∧ vn = .pointer none ∧ ∃ tt pp, ve = .iface tt pp)

theorem parse_any {w : World} (tabs : Tabs w w.heap.size) (s : ByteArray) (hmax : s.size ≤ 9223372036854775807) :
    Calls Tryz.prog 9 #[.string s] w fun e w' => (∃ vn ve, e = .returned (.tuple #[vn, ve]) ∧ ParseIs w.heap.size s vn ve w') ∧ Add w w' := by
  by_cases hs : 3000 < s.size
  · refine (parse_long s hs hmax).mono ?_
    rintro e w' ⟨⟨vn, ve, he, h⟩, ha⟩
    refine ⟨⟨vn, ve, he, Or.inr ⟨by rw [parseT, if_pos hs], ?_⟩⟩, ha⟩
    rcases h with ⟨_, h1, h2⟩ | ⟨h, _⟩ | ⟨h, _⟩ | ⟨h, _⟩
    · exact ⟨h1, _, _, h2⟩
    · omega
    · omega
    · omega
  · refine (parse_short tabs s (by omega)).mono ?_
    rintro e w' ⟨⟨vn, ve, he, h⟩, ha⟩
    refine ⟨⟨vn, ve, he, ?_⟩, ha⟩
    rcases h with ⟨h, _⟩ | ⟨_, f, h1, h2, a, h3, _⟩ | ⟨_, t, S, h1, h2, h3, h4⟩ | ⟨_, t, S, h1, h2, h3, h4⟩
    · omega
    · exact Or.inr ⟨by rw [parseT, if_neg hs, h1], h2, _, _, h3⟩
    · exact Or.inr ⟨by rw [parseT, if_neg hs, h1]; exact if_pos h2, h3, _, _, h4⟩
    · obtain ⟨b, rfl⟩ := vNode_ptr h3
      exact Or.inl ⟨t, b, by rw [parseT, if_neg hs, h1]; exact if_neg (by show ¬ 1200 < wrap64 (t.many : Int); omega), rfl, h3, h4⟩

theorem NodeAt.drewN {A : Nat → Prop} {w : World} {v : Value} {t : Tree} (h : NodeAt A w v t) (n : Nat) : NodeAt A (w.drewN n) v t := NodeAt.keep (w := w) (w' := w.drewN n) (fun _ h => h) (fun _ _ _ => rfl) _ _ h

/-- How 'read' comes back. -/
def ReadIs (lo : Nat) (s : ByteArray) (e : Ending) (w' : World) : Prop :=
  (∃ t b, parseT s (jval (lo + 2) 1) = some t ∧ e = .returned (.tuple #[.pointer (some ⟨b, 0, none⟩), .bool true]) ∧ NodeAt (fun j => lo ≤ j) w' (.pointer (some ⟨b, 0, none⟩)) t) ∨
  (parseT s (jval (lo + 2) 1) = none ∧ e = .returned (.tuple #[.pointer none, .bool false]))

set_option maxRecDepth 100000 in
set_option maxHeartbeats 4000000 in
theorem read_any {w : World} (tabs : Tabs w w.heap.size) (s : ByteArray) (hmax : s.size ≤ 9223372036854775807) :
    Calls Tryz.prog 4 #[.string s] w fun e w' => ReadIs w.heap.size s e w' ∧ Add w w' := by
  have hn0 : ∀ w : World, (binOp BinOp.eql 28 .nilIface .nilIface).run Tryz.prog w = .ok (.bool true) w := fun _ => by kernel_rfl
  have HT := hide tabs
  clear tabs
  go_enter Tryz.func4, Tryz.ntmps4
  go_wp2_with fail
  refine (parse_any (unhide HT) s hmax).mono ?_
  rintro e w1 ⟨⟨vn, ve, rfl, h⟩, ha⟩
  rcases h with ⟨t, b, h1, rfl, h3, rfl⟩ | ⟨h1, rfl, tt, pp, rfl⟩
  · have c0 : w1.cell? ⟨b, 0, none⟩ = some (.int .i64 1) := by
      have := h3.knd
      rw [parseT_kind h1] at this
      exact this
    have H1 := hide h1
    have H3 := hide h3
    have HA := hide ha
    clear h1 h3 ha
    go_wp2_with fail
    go_quiet (fail)
    go_wp2_with fail
    go_ret2
    exact ⟨Or.inl ⟨t, b, unhide H1, rfl, (unhide H3).drewN _⟩, (unhide HA).drewN _⟩
  · have hn1 : ∀ w : World, (binOp BinOp.eql 28 (.iface tt pp) .nilIface).run Tryz.prog w = .ok (.bool false) w := fun _ => by kernel_rfl
    have H1 := hide h1
    have HA := hide ha
    clear h1 ha
    go_wp2_with fail
    go_quiet (fail)
    go_wp2_with fail
    go_ret2
    exact ⟨Or.inr ⟨unhide H1, rfl⟩, (unhide HA).drewN _⟩
end Go.Proofs.YtjcoobkpmpjpbaaGreatDoor
