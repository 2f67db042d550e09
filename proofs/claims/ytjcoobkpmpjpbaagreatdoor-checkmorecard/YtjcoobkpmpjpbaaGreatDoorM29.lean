/-
  A program of one statement, as plain functions read it.
  Two small programs, as plain functions read them.
-/
import Derived.Test.YtjcoobkpmpjpbaaGreatDoorM28
namespace Go.Proofs.YtjcoobkpmpjpbaaGreatDoor
open Go.RowKit

def lit : ByteArray := ⟨#[112, 114, 105, 110, 116, 40, 49, 43, 50, 41, 59]⟩
/-- The reader of it at a token. -/
def tkS (v : Value) (dp pl tp kd : Nat) (mrk : ByteArray) (n : Int) : LS := ⟨lit, pl, 1, kd, tp, 1, mrk, ⟨#[]⟩, n, dp, v⟩
def tk1 (v : Value) (dp : Nat) : LS := tkS v dp 5 0 1 ⟨#[112, 114, 105, 110, 116]⟩ 0
def tk2 (v : Value) (dp : Nat) : LS := tkS v dp 6 5 1 ⟨#[40]⟩ 0
def tk3 (v : Value) (dp : Nat) : LS := tkS v dp 7 6 3 ⟨#[]⟩ 1
def tk4 (v : Value) (dp : Nat) : LS := tkS v dp 8 7 1 ⟨#[43]⟩ 0
def tk5 (v : Value) (dp : Nat) : LS := tkS v dp 9 8 3 ⟨#[]⟩ 2
def tk6 (v : Value) (dp : Nat) : LS := tkS v dp 10 9 1 ⟨#[41]⟩ 0
def tk7 (v : Value) (dp : Nat) : LS := tkS v dp 11 10 1 ⟨#[59]⟩ 0
def tk8 (v : Value) (dp : Nat) : LS := tkS v dp 11 11 0 ⟨#[]⟩ 0
def leaf1 : Tree := ⟨18, ⟨#[]⟩, noText, 1, 1, []⟩
def leaf2 : Tree := ⟨18, ⟨#[]⟩, noText, 2, 1, []⟩
def sum12 : Tree := nd 35 1 [leaf1, leaf2]
def prog12 : Tree := nd 1 1 [nd 16 1 [sum12]]

theorem adv1 (v : Value) : advP (firstS lit v) = .inr (tk1 v 0) := by kernel_rfl
theorem take1 (v : Value) (d : Nat) : takeP (tk1 v d) = .inr ((), tk2 v d) := by kernel_rfl
theorem num_at {S : LS} {p l u : Nat} (hk : skipP S.src (S.src.size - S.pl) S.pl S.ln = (p, l)) (h0 : p < S.src.size) (h1 : lt (byteAt S.src p) = false) (h2 : dg (byteAt S.src p) = true) {n : ByteArray} (h3 : numAt (S.fresh p l) = n) (hu : Lib.parseUintB 64 n.data.toList = .ok u) (hl : u < 100) {q : Nat} (hq : numEnd (S.fresh p l) = q) :
    takeP S = .inr ((), { S.fresh p l with pl := q, kd := 3, nn := u }) := by
  have e : advP S = .inr { S.fresh p l with pl := q, kd := 3, nn := u } := by
    rw [advP, hk]
    show advS (S.fresh p l) = _
    have hw : wrap64 (u : Int) = (u : Int) := by unfold wrap64; omega
    rw [advS_num (S := S.fresh p l) h0 h1 h2 (by rw [h3]; exact hu) (by simp; omega), hq, hw]
  rw [takeP, e]
theorem parse_one : Lib.parseUintB 64 [49] = .ok 1 := by simp [Lib.parseUintB, Lib.parseUintM]
theorem parse_two : Lib.parseUintB 64 [50] = .ok 2 := by simp [Lib.parseUintB, Lib.parseUintM]
theorem take2 (v : Value) (d : Nat) : takeP (tk2 v d) = .inr ((), tk3 v d) :=
  num_at (S := tk2 v d) (p := 6) (l := 1) (u := 1) (q := 7) (n := ⟨#[49]⟩) (by kernel_rfl) (show 6 < 11 by decide) (by kernel_rfl) (by kernel_rfl) (by kernel_rfl) parse_one (by decide) (by kernel_rfl)
theorem want2 (v : Value) (d : Nat) : wantP tOpen (tk2 v d) = .inr ((), tk3 v d) := by
  rw [wantP, if_pos (by kernel_rfl)]
  exact take2 v d
theorem take4 (v : Value) (d : Nat) : takeP (tk4 v d) = .inr ((), tk5 v d) :=
  num_at (S := tk4 v d) (p := 8) (l := 1) (u := 2) (q := 9) (n := ⟨#[50]⟩) (by kernel_rfl) (show 8 < 11 by decide) (by kernel_rfl) (by kernel_rfl) (by kernel_rfl) parse_two (by decide) (by kernel_rfl)
theorem want6 (v : Value) (d : Nat) : wantP tShut (tk6 v d) = .inr ((), tk7 v d) := by kernel_rfl
theorem want7 (v : Value) (d : Nat) : wantP tSemi (tk7 v d) = .inr ((), tk8 v d) := by kernel_rfl
theorem take3 (v : Value) (d : Nat) : takeP (tk3 v d) = .inr ((), tk4 v d) := by kernel_rfl
theorem take5 (v : Value) (d : Nat) : takeP (tk5 v d) = .inr ((), tk6 v d) := by kernel_rfl
theorem acc_no {m : ByteArray} {S : LS} (h : S.is m = false) : acceptP m S = .inr (false, S) := by rw [acceptP, if_neg (by rw [h]; decide)]
theorem suf_stop {L : Low} {f : Nat} {t : Tree} {S : LS} (h1 : S.is tDot = false) (h2 : S.is tSquare = false) (h3 : S.is tOpen = false) : sufLoop L (f + 1) t S = .inr (t, S) := by
  rw [sufLoop, bnd_inr (acc_no h1), if_neg (by decide), bnd_inr (acc_no h2), if_neg (by decide), bnd_inr (acc_no h3), if_neg (by decide)]
theorem pre_num {L : Low} {S S1 : LS} (h1 : S.is tNot = false) (h2 : S.is tMinus = false) (hk : S.kd = 3) (ht : takeP S = .inr ((), S1)) (k1 : S1.is tDot = false) (k2 : S1.is tSquare = false) (k3 : S1.is tOpen = false) :
    prefixedP L S = .inr (⟨18, S.tx, noText, S.nn, S.tl, []⟩, S1) := by
  have e : simpleP L S = .inr (⟨18, S.tx, noText, S.nn, S.tl, []⟩, S1) := by
    rw [simpleP, if_neg (by rw [hk]; decide), if_pos hk, leafP, bnd_inr ht]
  rw [prefixedP, if_neg (by rw [h1]; decide), if_neg (by rw [h2]; decide), suffixedP, bnd_inr e]
  exact suf_stop k1 k2 k3
theorem pre3 (L : Low) (v : Value) (d : Nat) : prefixedP L (tk3 v d) = .inr (leaf1, tk4 v d) :=
  pre_num (by kernel_rfl) (by kernel_rfl) (by kernel_rfl) (take3 v d) (by kernel_rfl) (by kernel_rfl) (by kernel_rfl)
theorem pre5 (L : Low) (v : Value) (d : Nat) : prefixedP L (tk5 v d) = .inr (leaf2, tk6 v d) :=
  pre_num (by kernel_rfl) (by kernel_rfl) (by kernel_rfl) (take5 v d) (by kernel_rfl) (by kernel_rfl) (by kernel_rfl)
theorem j4 (v : Value) (d : Nat) : joinerP 6 (tk4 v d) = 0 ∧ joinerP 5 (tk4 v d) = 35 := ⟨by kernel_rfl, by kernel_rfl⟩
theorem j6 (v : Value) (d : Nat) : joinerP 6 (tk6 v d) = 0 ∧ joinerP 5 (tk6 v d) = 0 ∧ joinerP 4 (tk6 v d) = 0 ∧ joinerP 3 (tk6 v d) = 0 ∧ joinerP 2 (tk6 v d) = 0 ∧ joinerP 1 (tk6 v d) = 0 := ⟨by kernel_rfl, by kernel_rfl, by kernel_rfl, by kernel_rfl, by kernel_rfl, by kernel_rfl⟩

theorem join_stop {lev : Nat} {P : LS → Res Tree} {S S1 : LS} {t : Tree} (h : P S = .inr (t, S1)) (hj : joinerP lev S1 = 0) : joinP lev P S = .inr (t, S1) := by
  rw [joinP, bnd_inr h, joinLoop, if_pos hj]
theorem join_once {lev kd : Nat} {P : LS → Res Tree} {S S1 S2 S3 : LS} {t u : Tree} (h : P S = .inr (t, S1)) (hj : joinerP lev S1 = kd) (hk : kd ≠ 0) (ht : takeP S1 = .inr ((), S2)) (h2 : P S2 = .inr (u, S3)) (hj3 : joinerP lev S3 = 0) : joinP lev P S = .inr (around kd t [u], S3) := by
  rw [joinP, bnd_inr h, joinLoop, if_neg (by rw [hj]; exact hk), bnd_inr ht, bnd_inr h2, joinLoop, if_pos hj3, hj]
theorem jo12 (L : Low) (v : Value) (d : Nat) : jo (prefixedP L) 6 (tk3 v d) = .inr (sum12, tk6 v d) := by
  have a1 : jo (prefixedP L) 1 (tk3 v d) = .inr (leaf1, tk4 v d) := join_stop (pre3 L v d) (j4 v d).1
  have a2 : jo (prefixedP L) 1 (tk5 v d) = .inr (leaf2, tk6 v d) := join_stop (pre5 L v d) (j6 v d).1
  have b : jo (prefixedP L) 2 (tk3 v d) = .inr (sum12, tk6 v d) := join_once a1 (j4 v d).2 (by decide) (take4 v d) a2 (j6 v d).2.1
  have c : jo (prefixedP L) 3 (tk3 v d) = .inr (sum12, tk6 v d) := join_stop b (j6 v d).2.2.1
  have e : jo (prefixedP L) 4 (tk3 v d) = .inr (sum12, tk6 v d) := join_stop c (j6 v d).2.2.2.1
  have f : jo (prefixedP L) 5 (tk3 v d) = .inr (sum12, tk6 v d) := join_stop e (j6 v d).2.2.2.2.1
  exact join_stop f (j6 v d).2.2.2.2.2
theorem deep_at {P : LS → Res Tree} {S S1 S2 S3 : LS} {t : Tree} (h25 : S.dp ≠ 25) (hS : { S with dp := S.dp + 1 } = S2) (h : P S2 = .inr (t, S1)) (hT : { S1 with dp := S1.dp - 1 } = S3) : deepP P S = .inr (t, S3) := by
  rw [deepP, if_neg h25, hS, bnd_inr h, hT]
theorem lower_v (d : Nat) : (lower (d + 1)).V = deepP (jo (prefixedP (lower d)) 6) := rfl
theorem lower_s (d : Nat) : (lower (d + 1)).S = deepP (anyP (lower d)) := rfl
theorem value12 (d : Nat) (v : Value) : (lower (d + 1)).V (tk3 v 1) = .inr (sum12, tk6 v 1) := by
  rw [lower_v]
  exact deep_at (S2 := tk3 v 2) (S1 := tk6 v 2) (show (1 : Nat) ≠ 25 by decide) rfl (jo12 (lower d) v 2) rfl
theorem par12 (d : Nat) (v : Value) : inParP (lower (d + 1)) (tk2 v 1) = .inr (sum12, tk7 v 1) := by
  rw [inParP, bnd_inr (want2 v 1), bnd_inr (value12 d v), bnd_inr (want6 v 1)]
theorem any12 (d : Nat) (v : Value) : anyP (lower (d + 1)) (tk1 v 1) = .inr (nd 16 1 [sum12], tk8 v 1) := by
  have e : anyP (lower (d + 1)) (tk1 v 1) = endP 16 (inParP (lower (d + 1))) (tk1 v 1) := by
    have h0 : (tk1 v 1).is wVar = false := by kernel_rfl
    have h1 : (tk1 v 1).is wIf = false := by kernel_rfl
    have h2 : (tk1 v 1).is wWhile = false := by kernel_rfl
    have h3 : (tk1 v 1).is wReturn = false := by kernel_rfl
    have h4 : (tk1 v 1).is wThrow = false := by kernel_rfl
    have h5 : (tk1 v 1).is wPrint = true := by kernel_rfl
    rw [anyP, h0, h1, h2, h3, h4, h5]
    rfl
  rw [e, endP, bnd_inr (take1 v 1), closeP, bnd_inr (par12 d v), bnd_inr (want7 v 1)]
  rfl
theorem stmt12 (d : Nat) (v : Value) : (lower (d + 2)).S (tk1 v 0) = .inr (nd 16 1 [sum12], tk8 v 0) := by
  rw [lower_s]
  exact deep_at (S2 := tk1 v 1) (S1 := tk8 v 1) (show (0 : Nat) ≠ 25 by decide) rfl (any12 d v) rfl
theorem outer12 (d : Nat) (v : Value) : outermostP (lower (d + 2)) (tk1 v 0) = .inr (nd 16 1 [sum12], tk8 v 0) := by
  have h0 : (tk1 v 0).is wClass = false := by kernel_rfl
  have h1 : (tk1 v 0).is wFn = false := by kernel_rfl
  rw [outermostP, h0, h1, if_neg (by decide), if_neg (by decide)]
  exact stmt12 d v
theorem prog12_read (d : Nat) (v : Value) : programP (lower (d + 2)) (tk1 v 0) = .inr (prog12, tk8 v 0) := by
  have e : progLoop (lower (d + 2)) 3002 [] (tk1 v 0) = .inr ([nd 16 1 [sum12]], tk8 v 0) := by
    have k1 : ¬ (tk1 v 0).kd = 0 := by show ¬ (1 : Nat) = 0; decide
    have k8 : (tk8 v 0).kd = 0 := rfl
    rw [progLoop, if_neg k1, bnd_inr (outer12 d v), progLoop, if_pos k8]
    rfl
  rw [programP, bnd_inr e]
  rfl
theorem readP_lit (v : Value) : readP lit v = .inr (prog12, tk8 v 0) := by
  rw [readP, adv1]
  exact prog12_read 24 v
theorem parseT_lit (v : Value) : parseT lit v = some prog12 := by
  have hm : prog12.many = 5 := by simp [prog12, sum12, leaf1, leaf2, nd, many_eq]
  rw [parseT, if_neg (by decide), readP_lit]
  show (if 1200 < wrap64 ((prog12.many : Nat) : Int) then none else some prog12) = _
  rw [hm, if_neg (by simp [wrap64])]
end Go.Proofs.YtjcoobkpmpjpbaaGreatDoor

namespace Go.Proofs.YtjcoobkpmpjpbaaGreatDoor
open Go.RowKit

theorem pre_name {L : Low} {S S1 : LS} (h1 : S.is tNot = false) (h2 : S.is tMinus = false) (hk : S.kd = 2) (ht : takeP S = .inr ((), S1)) (k1 : S1.is tDot = false) (k2 : S1.is tSquare = false) (k3 : S1.is tOpen = false) :
    prefixedP L S = .inr (⟨24, S.tx, noText, S.nn, S.tl, []⟩, S1) := by
  have e : simpleP L S = .inr (⟨24, S.tx, noText, S.nn, S.tl, []⟩, S1) := by
    rw [simpleP, if_pos hk, leafP, bnd_inr ht]
  rw [prefixedP, if_neg (by rw [h1]; decide), if_neg (by rw [h2]; decide), suffixedP, bnd_inr e]
  exact suf_stop k1 k2 k3
theorem jo_stop {P : LS → Res Tree} {S S1 : LS} {t : Tree} (h : P S = .inr (t, S1)) (j1 : joinerP 1 S1 = 0) (j2 : joinerP 2 S1 = 0) (j3 : joinerP 3 S1 = 0) (j4 : joinerP 4 S1 = 0) (j5 : joinerP 5 S1 = 0) (j6 : joinerP 6 S1 = 0) : jo P 6 S = .inr (t, S1) := by
  have a : jo P 1 S = .inr (t, S1) := join_stop h j6
  have b : jo P 2 S = .inr (t, S1) := join_stop a j5
  have c : jo P 3 S = .inr (t, S1) := join_stop b j4
  have d : jo P 4 S = .inr (t, S1) := join_stop c j3
  have e : jo P 5 S = .inr (t, S1) := join_stop d j2
  exact join_stop e j1
def aN : ByteArray := ⟨#[97]⟩
def leafA : Tree := ⟨24, aN, noText, 0, 1, []⟩
def leafOne : Tree := ⟨18, ⟨#[]⟩, noText, 1, 1, []⟩
def printA : Tree := nd 16 1 [leafA]
def varA : Tree := ndT 8 aN 1 [leafOne]
def progB : Tree := nd 1 1 [printA]
def progA : Tree := nd 1 1 [varA, printA]
def litB : ByteArray := ⟨#[112, 114, 105, 110, 116, 40, 97, 41, 59]⟩
def tkB (v : Value) (dp pl tp kd : Nat) (mrk tx : ByteArray) (n : Int) : LS := ⟨litB, pl, 1, kd, tp, 1, mrk, tx, n, dp, v⟩
def tB1 (v : Value) (dp : Nat) : LS := tkB v dp 5 0 1 ⟨#[112, 114, 105, 110, 116]⟩ ⟨#[]⟩ 0
def tB2 (v : Value) (dp : Nat) : LS := tkB v dp 6 5 1 ⟨#[40]⟩ ⟨#[]⟩ 0
def tB3 (v : Value) (dp : Nat) : LS := tkB v dp 7 6 2 ⟨#[]⟩ ⟨#[97]⟩ 0
def tB4 (v : Value) (dp : Nat) : LS := tkB v dp 8 7 1 ⟨#[41]⟩ ⟨#[]⟩ 0
def tB5 (v : Value) (dp : Nat) : LS := tkB v dp 9 8 1 ⟨#[59]⟩ ⟨#[]⟩ 0
def tB6 (v : Value) (dp : Nat) : LS := tkB v dp 9 9 0 ⟨#[]⟩ ⟨#[]⟩ 0
theorem advB (v : Value) : advP (firstS litB v) = .inr (tB1 v 0) := by kernel_rfl
theorem takeB1 (v : Value) (d : Nat) : takeP (tB1 v d) = .inr ((), tB2 v d) := by kernel_rfl
theorem takeB2 (v : Value) (d : Nat) : takeP (tB2 v d) = .inr ((), tB3 v d) := by kernel_rfl
theorem takeB3 (v : Value) (d : Nat) : takeP (tB3 v d) = .inr ((), tB4 v d) := by kernel_rfl
theorem takeB4 (v : Value) (d : Nat) : takeP (tB4 v d) = .inr ((), tB5 v d) := by kernel_rfl
theorem takeB5 (v : Value) (d : Nat) : takeP (tB5 v d) = .inr ((), tB6 v d) := by kernel_rfl
theorem valB (d : Nat) (v : Value) : (lower (d + 1)).V (tB3 v 1) = .inr (leafA, tB4 v 1) := by
  rw [lower_v]
  exact deep_at (S2 := tB3 v 2) (S1 := tB4 v 2) (show (1 : Nat) ≠ 25 by decide) rfl (jo_stop (pre_name (by kernel_rfl) (by kernel_rfl) (by kernel_rfl) (takeB3 v 2) (by kernel_rfl) (by kernel_rfl) (by kernel_rfl)) (by kernel_rfl) (by kernel_rfl) (by kernel_rfl) (by kernel_rfl) (by kernel_rfl) (by kernel_rfl)) rfl
theorem wantOB (v : Value) (d : Nat) : wantP tOpen (tB2 v d) = .inr ((), tB3 v d) := by
  rw [wantP, if_pos (by kernel_rfl)]
  exact takeB2 v d
theorem wantSB (v : Value) (d : Nat) : wantP tShut (tB4 v d) = .inr ((), tB5 v d) := by
  rw [wantP, if_pos (by kernel_rfl)]
  exact takeB4 v d
theorem wantEB (v : Value) (d : Nat) : wantP tSemi (tB5 v d) = .inr ((), tB6 v d) := by
  rw [wantP, if_pos (by kernel_rfl)]
  exact takeB5 v d
theorem parB (d : Nat) (v : Value) : inParP (lower (d + 1)) (tB2 v 1) = .inr (leafA, tB5 v 1) := by
  rw [inParP, bnd_inr (wantOB v 1), bnd_inr (valB d v), bnd_inr (wantSB v 1)]
theorem anyB (d : Nat) (v : Value) : anyP (lower (d + 1)) (tB1 v 1) = .inr (printA, tB6 v 1) := by
  have e : anyP (lower (d + 1)) (tB1 v 1) = endP 16 (inParP (lower (d + 1))) (tB1 v 1) := by
    have h0 : (tB1 v 1).is wVar = false := by kernel_rfl
    have h1 : (tB1 v 1).is wIf = false := by kernel_rfl
    have h2 : (tB1 v 1).is wWhile = false := by kernel_rfl
    have h3 : (tB1 v 1).is wReturn = false := by kernel_rfl
    have h4 : (tB1 v 1).is wThrow = false := by kernel_rfl
    have h5 : (tB1 v 1).is wPrint = true := by kernel_rfl
    rw [anyP, h0, h1, h2, h3, h4, h5]
    rfl
  rw [e, endP, bnd_inr (takeB1 v 1), closeP, bnd_inr (parB d v), bnd_inr (wantEB v 1)]
  rfl
theorem outB (d : Nat) (v : Value) : outermostP (lower (d + 2)) (tB1 v 0) = .inr (printA, tB6 v 0) := by
  have h0 : (tB1 v 0).is wClass = false := by kernel_rfl
  have h1 : (tB1 v 0).is wFn = false := by kernel_rfl
  rw [outermostP, h0, h1, if_neg (by decide), if_neg (by decide), lower_s]
  exact deep_at (S2 := tB1 v 1) (S1 := tB6 v 1) (show (0 : Nat) ≠ 25 by decide) rfl (anyB d v) rfl
theorem readP_B (v : Value) : readP litB v = .inr (progB, tB6 v 0) := by
  have e : progLoop (lower 26) 3002 [] (tB1 v 0) = .inr ([printA], tB6 v 0) := by
    have k1 : ¬ (tB1 v 0).kd = 0 := by show ¬ (1 : Nat) = 0; decide
    have k8 : (tB6 v 0).kd = 0 := rfl
    rw [progLoop, if_neg k1, bnd_inr (outB 24 v), progLoop, if_pos k8]
    rfl
  rw [readP, advB]
  show programP (lower 26) (tB1 v 0) = _
  rw [programP, bnd_inr e]
  rfl
theorem parseT_B (v : Value) : parseT litB v = some progB := by
  have hm : progB.many = 3 := by simp [progB, printA, leafA, nd, many_eq]
  rw [parseT, if_neg (by decide), readP_B]
  show (if 1200 < wrap64 ((progB.many : Nat) : Int) then none else some progB) = _
  rw [hm, if_neg (by simp [wrap64])]
def litA : ByteArray := ⟨#[118, 97, 114, 32, 97, 32, 61, 32, 49, 59, 32, 112, 114, 105, 110, 116, 40, 97, 41, 59]⟩
def tkA (v : Value) (dp pl tp kd : Nat) (mrk tx : ByteArray) (n : Int) : LS := ⟨litA, pl, 1, kd, tp, 1, mrk, tx, n, dp, v⟩
def tA1 (v : Value) (dp : Nat) : LS := tkA v dp 3 0 1 ⟨#[118, 97, 114]⟩ ⟨#[]⟩ 0
def tA2 (v : Value) (dp : Nat) : LS := tkA v dp 5 4 2 ⟨#[]⟩ ⟨#[97]⟩ 0
def tA3 (v : Value) (dp : Nat) : LS := tkA v dp 7 6 1 ⟨#[61]⟩ ⟨#[]⟩ 0
def tA4 (v : Value) (dp : Nat) : LS := tkA v dp 9 8 3 ⟨#[]⟩ ⟨#[]⟩ 1
def tA5 (v : Value) (dp : Nat) : LS := tkA v dp 10 9 1 ⟨#[59]⟩ ⟨#[]⟩ 0
def tA6 (v : Value) (dp : Nat) : LS := tkA v dp 16 11 1 ⟨#[112, 114, 105, 110, 116]⟩ ⟨#[]⟩ 0
def tA7 (v : Value) (dp : Nat) : LS := tkA v dp 17 16 1 ⟨#[40]⟩ ⟨#[]⟩ 0
def tA8 (v : Value) (dp : Nat) : LS := tkA v dp 18 17 2 ⟨#[]⟩ ⟨#[97]⟩ 0
def tA9 (v : Value) (dp : Nat) : LS := tkA v dp 19 18 1 ⟨#[41]⟩ ⟨#[]⟩ 0
def tA10 (v : Value) (dp : Nat) : LS := tkA v dp 20 19 1 ⟨#[59]⟩ ⟨#[]⟩ 0
def tA11 (v : Value) (dp : Nat) : LS := tkA v dp 20 20 0 ⟨#[]⟩ ⟨#[]⟩ 0
theorem advA (v : Value) : advP (firstS litA v) = .inr (tA1 v 0) := by kernel_rfl
theorem takeA1 (v : Value) (d : Nat) : takeP (tA1 v d) = .inr ((), tA2 v d) := by kernel_rfl
theorem takeA2 (v : Value) (d : Nat) : takeP (tA2 v d) = .inr ((), tA3 v d) := by kernel_rfl
theorem takeA3 (v : Value) (d : Nat) : takeP (tA3 v d) = .inr ((), tA4 v d) :=
  num_at (S := tA3 v d) (p := 8) (l := 1) (u := 1) (q := 9) (n := ⟨#[49]⟩) (by kernel_rfl) (show 8 < 20 by decide) (by kernel_rfl) (by kernel_rfl) (by kernel_rfl) parse_one (by decide) (by kernel_rfl)
theorem takeA4 (v : Value) (d : Nat) : takeP (tA4 v d) = .inr ((), tA5 v d) := by kernel_rfl
theorem takeA5 (v : Value) (d : Nat) : takeP (tA5 v d) = .inr ((), tA6 v d) := by kernel_rfl
theorem takeA6 (v : Value) (d : Nat) : takeP (tA6 v d) = .inr ((), tA7 v d) := by kernel_rfl
theorem takeA7 (v : Value) (d : Nat) : takeP (tA7 v d) = .inr ((), tA8 v d) := by kernel_rfl
theorem takeA8 (v : Value) (d : Nat) : takeP (tA8 v d) = .inr ((), tA9 v d) := by kernel_rfl
theorem takeA9 (v : Value) (d : Nat) : takeP (tA9 v d) = .inr ((), tA10 v d) := by kernel_rfl
theorem takeA10 (v : Value) (d : Nat) : takeP (tA10 v d) = .inr ((), tA11 v d) := by kernel_rfl
theorem valA (d : Nat) (v : Value) : (lower (d + 1)).V (tA8 v 1) = .inr (leafA, tA9 v 1) := by
  rw [lower_v]
  exact deep_at (S2 := tA8 v 2) (S1 := tA9 v 2) (show (1 : Nat) ≠ 25 by decide) rfl (jo_stop (pre_name (by kernel_rfl) (by kernel_rfl) (by kernel_rfl) (takeA8 v 2) (by kernel_rfl) (by kernel_rfl) (by kernel_rfl)) (by kernel_rfl) (by kernel_rfl) (by kernel_rfl) (by kernel_rfl) (by kernel_rfl) (by kernel_rfl)) rfl
theorem wantOA (v : Value) (d : Nat) : wantP tOpen (tA7 v d) = .inr ((), tA8 v d) := by
  rw [wantP, if_pos (by kernel_rfl)]
  exact takeA7 v d
theorem wantSA (v : Value) (d : Nat) : wantP tShut (tA9 v d) = .inr ((), tA10 v d) := by
  rw [wantP, if_pos (by kernel_rfl)]
  exact takeA9 v d
theorem wantEA (v : Value) (d : Nat) : wantP tSemi (tA10 v d) = .inr ((), tA11 v d) := by
  rw [wantP, if_pos (by kernel_rfl)]
  exact takeA10 v d
theorem parA (d : Nat) (v : Value) : inParP (lower (d + 1)) (tA7 v 1) = .inr (leafA, tA10 v 1) := by
  rw [inParP, bnd_inr (wantOA v 1), bnd_inr (valA d v), bnd_inr (wantSA v 1)]
theorem anyA (d : Nat) (v : Value) : anyP (lower (d + 1)) (tA6 v 1) = .inr (printA, tA11 v 1) := by
  have e : anyP (lower (d + 1)) (tA6 v 1) = endP 16 (inParP (lower (d + 1))) (tA6 v 1) := by
    have h0 : (tA6 v 1).is wVar = false := by kernel_rfl
    have h1 : (tA6 v 1).is wIf = false := by kernel_rfl
    have h2 : (tA6 v 1).is wWhile = false := by kernel_rfl
    have h3 : (tA6 v 1).is wReturn = false := by kernel_rfl
    have h4 : (tA6 v 1).is wThrow = false := by kernel_rfl
    have h5 : (tA6 v 1).is wPrint = true := by kernel_rfl
    rw [anyP, h0, h1, h2, h3, h4, h5]
    rfl
  rw [e, endP, bnd_inr (takeA6 v 1), closeP, bnd_inr (parA d v), bnd_inr (wantEA v 1)]
  rfl
theorem outA (d : Nat) (v : Value) : outermostP (lower (d + 2)) (tA6 v 0) = .inr (printA, tA11 v 0) := by
  have h0 : (tA6 v 0).is wClass = false := by kernel_rfl
  have h1 : (tA6 v 0).is wFn = false := by kernel_rfl
  rw [outermostP, h0, h1, if_neg (by decide), if_neg (by decide), lower_s]
  exact deep_at (S2 := tA6 v 1) (S1 := tA11 v 1) (show (0 : Nat) ≠ 25 by decide) rfl (anyA d v) rfl
theorem valOne (d : Nat) (v : Value) : (lower (d + 1)).V (tA4 v 1) = .inr (leafOne, tA5 v 1) := by
  rw [lower_v]
  exact deep_at (S2 := tA4 v 2) (S1 := tA5 v 2) (show (1 : Nat) ≠ 25 by decide) rfl (jo_stop (pre_num (by kernel_rfl) (by kernel_rfl) (by kernel_rfl) (takeA4 v 2) (by kernel_rfl) (by kernel_rfl) (by kernel_rfl)) (by kernel_rfl) (by kernel_rfl) (by kernel_rfl) (by kernel_rfl) (by kernel_rfl) (by kernel_rfl)) rfl
theorem wantQ (v : Value) (d : Nat) : wantP tEqual (tA3 v d) = .inr ((), tA4 v d) := by
  rw [wantP, if_pos (by kernel_rfl)]
  exact takeA3 v d
theorem wantV (v : Value) (d : Nat) : wantP tSemi (tA5 v d) = .inr ((), tA6 v d) := by
  rw [wantP, if_pos (by kernel_rfl)]
  exact takeA5 v d
theorem nameV (v : Value) (d : Nat) : nameP (tA2 v d) = .inr (aN, tA3 v d) := by
  rw [nameP, if_pos (by kernel_rfl), bnd_inr (takeA2 v d)]
  rfl
theorem anyV (d : Nat) (v : Value) : anyP (lower (d + 1)) (tA1 v 1) = .inr (varA, tA6 v 1) := by
  have h0 : (tA1 v 1).is wVar = true := by kernel_rfl
  rw [anyP, if_pos h0, variableP, bnd_inr (takeA1 v 1), bnd_inr (nameV v 1), bnd_inr (wantQ v 1), closeP, bnd_inr (show bnd ((lower (d + 1)).V (tA4 v 1)) (fun t S1 => bnd (wantP tSemi S1) fun _ S2 => .inr (t, S2)) = .inr (leafOne, tA6 v 1) by rw [bnd_inr (valOne d v), bnd_inr (wantV v 1)])]
  rfl
theorem outV (d : Nat) (v : Value) : outermostP (lower (d + 2)) (tA1 v 0) = .inr (varA, tA6 v 0) := by
  have h0 : (tA1 v 0).is wClass = false := by kernel_rfl
  have h1 : (tA1 v 0).is wFn = false := by kernel_rfl
  rw [outermostP, h0, h1, if_neg (by decide), if_neg (by decide), lower_s]
  exact deep_at (S2 := tA1 v 1) (S1 := tA6 v 1) (show (0 : Nat) ≠ 25 by decide) rfl (anyV d v) rfl
theorem readP_A (v : Value) : readP litA v = .inr (progA, tA11 v 0) := by
  have e : progLoop (lower 26) 3002 [] (tA1 v 0) = .inr ([varA, printA], tA11 v 0) := by
    have k1 : ¬ (tA1 v 0).kd = 0 := by show ¬ (1 : Nat) = 0; decide
    have k6 : ¬ (tA6 v 0).kd = 0 := by show ¬ (1 : Nat) = 0; decide
    have k8 : (tA11 v 0).kd = 0 := rfl
    rw [progLoop, if_neg k1, bnd_inr (outV 24 v), progLoop, if_neg k6, bnd_inr (outA 24 v), progLoop, if_pos k8]
    rfl
  rw [readP, advA]
  show programP (lower 26) (tA1 v 0) = _
  rw [programP, bnd_inr e]
  rfl
theorem parseT_A (v : Value) : parseT litA v = some progA := by
  have hm : progA.many = 5 := by simp [progA, printA, varA, leafA, leafOne, nd, ndT, many_eq]
  rw [parseT, if_neg (by decide), readP_A]
  show (if 1200 < wrap64 ((progA.many : Nat) : Int) then none else some progA) = _
  rw [hm, if_neg (by simp [wrap64])]
end Go.Proofs.YtjcoobkpmpjpbaaGreatDoor
