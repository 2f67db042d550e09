/-
  What is thrown is caught.
  Line feeds ahead of a program make its lines so many more, and nothing else: of the reader as plain functions.
-/
import Derived.Test.YtjcoobkpmpjpbaaGreatDoorM12
import Derived.Defers
import Derived.Recover
namespace Go.Proofs.YtjcoobkpmpjpbaaGreatDoor
open Go.RowKit

theorem catch_idle (p q : Addr) (w : World) :
    CallsD Tryz.prog 16 #[.pointer (some p), .pointer (some q)] .returning w fun e u' w' => e = .returned (.tuple #[]) ∧ u' = .returning ∧ w' = w := by
  have hne : ∀ w : World, (binOp BinOp.neq 20 .nilIface .nilIface).run Tryz.prog w = .ok (.bool false) w := fun _ => by kernel_rfl
  refine callsD_of_wpS Tryz.func16 rfl fun c₀ cs hu => ?_
  apply wpS_seq
  apply wpS_region
  simp [wpOpsS, go_sem, recoverD, hu, Tryz.ntmps16, Exit.thenS]
  refine wpS_of_wp ?_
  show Code.wp _ _ _ { tmps := #[.pointer (some p), .pointer (some q), .nilIface, .nilIface, undef, undef, undef, undef], defers := [] } w
  go_wp2_with fail
  exact ⟨rfl, .returning, by rw [← hu], _, results_none Tryz.results16 _ _ _, rfl, rfl, rfl⟩

set_option maxRecDepth 100000 in
set_option maxHeartbeats 1000000 in
theorem catch_panicking (b : Nat) (e pl : Int) (older : List PanicEntry) (w : World) {v1 v2 : Value} {t1 t2 : TypeId} (hb1 : w.heap[b]? = some (.cells #[v1] t1 (0, 0))) (hb2 : w.heap[b + 1]? = some (.cells #[v2] t2 (0, 0))) :
    CallsD Tryz.prog 16 #[.pointer (some ⟨b, 0, none⟩), .pointer (some ⟨b + 1, 0, none⟩)] (.panicking ({ v := .iface 76 (.agg #[.int .i64 e, .int .i64 pl]), recovered := false } :: older)) w fun en u' w' =>
      en = .returned (.tuple #[]) ∧ u' = .panicking ({ v := .iface 76 (.agg #[.int .i64 e, .int .i64 pl]), recovered := true } :: older) ∧
      w' = ((((w.alloc (.cells #[.int .i64 e, .int .i64 pl] 76)).alloc (.cells #[.int .i64 e, .int .i64 pl] 80)).setCell ⟨b, 0, none⟩ (.pointer none)).setCell ⟨b + 1, 0, none⟩ (.iface 78 (.pointer (some ⟨w.heap.size + 1, 0, none⟩)))) := by
  refine callsD_of_wpS Tryz.func16 rfl fun c₀ cs hu => ?_
  apply wpS_seq
  apply wpS_region
  simp [wpOpsS, go_sem, recoverD, hu, Tryz.ntmps16, Exit.thenS]
  refine wpS_of_wp ?_
  show Code.wp _ _ _ { tmps := #[.pointer (some ⟨b, 0, none⟩), .pointer (some ⟨b + 1, 0, none⟩), .iface 76 (.agg #[.int .i64 e, .int .i64 pl]), .iface 76 (.agg #[.int .i64 e, .int .i64 pl]), undef, undef, undef, undef], defers := [] } w
  go_wp2_with fail
  refine (caught_any w e pl).mono ?_
  rintro en w1 ⟨rfl, hw1⟩
  have hl1 := (Array.getElem?_eq_some_iff.1 hb1).1
  have hl2 := (Array.getElem?_eq_some_iff.1 hb2).1
  have k1 : w1.heap[b]? = some (.cells #[v1] t1 (0, 0)) := by rw [hw1, hold _ _ (by simp; omega), hold _ _ hl1, hb1]
  have k2 : w1.heap[b + 1]? = some (.cells #[v2] t2 (0, 0)) := by rw [hw1, hold _ _ (by simp; omega), hold _ _ hl2, hb2]
  have c1 : w1.cell? ⟨b, 0, none⟩ = some v1 := hcell k1 0
  have c2 : w1.cell? ⟨b + 1, 0, none⟩ = some v2 := hcell k2 0
  have f1 := hfroz k1 0
  have f2 := hfroz k2 0
  have HW := hide hw1
  clear k1 k2 hb1 hb2 hw1
  go_wp2_with fail
  refine ⟨rfl, _, rfl, _, results_none Tryz.results16 _ _ _, rfl, rfl, ?_⟩
  rw [unhide HW]
end Go.Proofs.YtjcoobkpmpjpbaaGreatDoor

namespace Go.Proofs.YtjcoobkpmpjpbaaGreatDoor
open Go.RowKit
set_option linter.unusedVariables false

/-- A text with k bytes ahead of another. -/
structure Shs (k : Nat) (s s' : ByteArray) : Prop where
  size : s'.size = s.size + k
  byte : ∀ (p : Nat) (h : p < s.size) (h' : p + k < s'.size), s'[p + k] = s[p]
  ext : ∀ a b : Nat, s'.extract (a + k) (b + k) = s.extract a b

structure Sh (k : Nat) (S S' : LS) : Prop where
  src : Shs k S.src S'.src
  pl : S'.pl = S.pl + k
  ln : S'.ln = S.ln + k
  kd : S'.kd = S.kd
  tp : S'.tp = S.tp + k
  tl : S'.tl = S.tl + k
  mrk : S'.mrk = S.mrk
  tx : S'.tx = S.tx
  nn : S'.nn = S.nn
  dp : S'.dp = S.dp

theorem skip_sh {k : Nat} {s s' : ByteArray} (h : Shs k s s') : ∀ (f p l : Nat), skipP s' f (p + k) (l + k) = ((skipP s f p l).1 + k, (skipP s f p l).2 + k)
  | 0, p, l => rfl
  | f + 1, p, l => by
    have hs := h.size
    rw [skipP, skipP]
    by_cases hp : p < s.size
    · rw [dif_pos hp, dif_pos (show p + k < s'.size by omega), h.byte p hp (by omega)]
      split
      · have := skip_sh h f (p + 1) (l + 1)
        rw [show p + k + 1 = p + 1 + k by omega, show l + k + 1 = l + 1 + k by omega]
        exact this
      · split
        · have := skip_sh h f (p + 1) l
          rw [show p + k + 1 = p + 1 + k by omega]
          exact this
        · rfl
    · rw [dif_neg hp, dif_neg (show ¬ p + k < s'.size by omega)]
theorem run_sh {k : Nat} {s s' : ByteArray} (h : Shs k s s') (B : Int → Bool) : ∀ (f p : Nat), runP s' B f (p + k) = runP s B f p + k
  | 0, p => rfl
  | f + 1, p => by
    have hs := h.size
    rw [runP, runP]
    by_cases hp : p < s.size
    · rw [dif_pos hp, dif_pos (show p + k < s'.size by omega), h.byte p hp (by omega)]
      split
      · have := run_sh h B f (p + 1)
        rw [show p + k + 1 = p + 1 + k by omega]
        exact this
      · rfl
    · rw [dif_neg hp, dif_neg (show ¬ p + k < s'.size by omega)]
theorem byteAt_sh {k : Nat} {s s' : ByteArray} (h : Shs k s s') (p : Nat) : byteAt s' (p + k) = byteAt s p := by
  have hs := h.size
  unfold byteAt
  by_cases hp : p < s.size
  · rw [dif_pos hp, dif_pos (show p + k < s'.size by omega), h.byte p hp (by omega)]
  · rw [dif_neg hp, dif_neg (show ¬ p + k < s'.size by omega)]
theorem twin_sh {k : Nat} {s s' : ByteArray} (h : Shs k s s') (p i : Nat) : isTwin s' (p + k) i = isTwin s p i := by
  unfold isTwin
  rw [h.size, h.ext]
theorem sign_sh {k : Nat} {s s' : ByteArray} (h : Shs k s s') (p : Nat) : signP s' (p + k) = signP s p := by
  have hs := h.size
  unfold signP
  rw [twin_sh h, twin_sh h, twin_sh h]
  by_cases hp : p < s.size
  · rw [dif_pos hp, dif_pos (show p + k < s'.size by omega), h.byte p hp (by omega)]
  · rw [dif_neg hp, dif_neg (show ¬ p + k < s'.size by omega)]
/-- How what a text's reading comes to is further on. -/
def strUp (k : Nat) : Nat ⊕ (List UInt8 × Nat) → Nat ⊕ (List UInt8 × Nat)
  | .inl q => .inl (q + k)
  | .inr (l, q) => .inr (l, q + k)
theorem str_sh {k : Nat} {s s' : ByteArray} (h : Shs k s s') : ∀ (f p : Nat) (acc : List UInt8), strP s' f (p + k) acc = strUp k (strP s f p acc)
  | 0, p, acc => rfl
  | f + 1, p, acc => by
    have hs := h.size
    rw [strP, strP]
    have e1 : byteAt s' (p + k + 1) = byteAt s (p + 1) := by rw [show p + k + 1 = p + 1 + k by omega]; exact byteAt_sh h (p + 1)
    rw [byteAt_sh h p, e1]
    have q1 : (p + k < s'.size ∧ byteAt s p ≠ 10) ↔ (p < s.size ∧ byteAt s p ≠ 10) := by rw [hs]; constructor <;> intro ⟨a, b⟩ <;> exact ⟨by omega, b⟩
    have q2 : (p + k + 1 < s'.size ∧ byteAt s (p + 1) ≠ 10) ↔ (p + 1 < s.size ∧ byteAt s (p + 1) ≠ 10) := by rw [hs]; constructor <;> intro ⟨a, b⟩ <;> exact ⟨by omega, b⟩
    simp only [q1, q2]
    split
    · split
      · show _ = Sum.inr (acc, p + 1 + k)
        rw [show p + k + 1 = p + 1 + k by omega]
      · split
        · split
          · split
            · rename_i c hc
              have := str_sh h f (p + 2) (acc ++ [UInt8.ofNat c])
              rw [show p + k + 2 = p + 2 + k by omega]
              exact this
            · show Sum.inl (p + k + 1) = Sum.inl (p + 1 + k)
              rw [show p + k + 1 = p + 1 + k by omega]
          · show Sum.inl (p + k + 1) = Sum.inl (p + 1 + k)
            rw [show p + k + 1 = p + 1 + k by omega]
        · have := str_sh h f (p + 1) (acc ++ [UInt8.ofNat (byteAt s p)])
          rw [show p + k + 1 = p + 1 + k by omega]
          exact this
    · rfl

/-- What is read of one text, and of the other. -/
def RelA (k : Nat) : (Int × Nat) ⊕ LS → (Int × Nat) ⊕ LS → Prop
  | .inl f, .inl f' => f' = (f.1, f.2 + k)
  | .inr S, .inr S' => Sh k S S'
  | _, _ => False
/-- The same of a reader that has come to a token. -/
structure ShO (k : Nat) (S S' : LS) : Prop where
  sh : Sh k S S'
  ok : Ok S
theorem ShO.tl {k : Nat} {S S' : LS} (h : ShO k S S') : S'.tl = S.tl + k := h.sh.tl
theorem ShO.tlb {k : Nat} {S S' : LS} (h : ShO k S S') : S.tl ≤ 3001 := by
  have h1 := h.ok.tl
  have h2 := h.ok.tp
  have h3 := h.ok.fit.pl
  have h4 := h.ok.fit.size
  omega
theorem ShO.tp {k : Nat} {S S' : LS} (h : ShO k S S') : S'.tp = S.tp + k := h.sh.tp
theorem ShO.kd {k : Nat} {S S' : LS} (h : ShO k S S') : S'.kd = S.kd := h.sh.kd
theorem ShO.mrk {k : Nat} {S S' : LS} (h : ShO k S S') : S'.mrk = S.mrk := h.sh.mrk
theorem ShO.tx {k : Nat} {S S' : LS} (h : ShO k S S') : S'.tx = S.tx := h.sh.tx
theorem ShO.nn {k : Nat} {S S' : LS} (h : ShO k S S') : S'.nn = S.nn := h.sh.nn
theorem ShO.dp {k : Nat} {S S' : LS} (h : ShO k S S') : S'.dp = S.dp := h.sh.dp
def RelR {α : Type} (k : Nat) (R : α → α → Prop) : Res α → Res α → Prop
  | .inl f, .inl f' => f' = (f.1, f.2 + k)
  | .inr x, .inr x' => R x.1 x'.1 ∧ ShO k x.2 x'.2
  | _, _ => False

theorem fresh_sh {k : Nat} {S S' : LS} (h : Sh k S S') {p l : Nat} : Sh k (S.fresh p l) (S'.fresh (p + k) (l + k)) := ⟨h.src, rfl, rfl, rfl, rfl, rfl, rfl, rfl, rfl, h.dp⟩
theorem wordEnd_sh {k : Nat} {S S' : LS} (h : Sh k S S') : wordEnd S' = wordEnd S + k := by
  unfold wordEnd
  rw [h.pl, h.src.size, show S.src.size + k - (S.pl + k) = S.src.size - S.pl by omega, run_sh h.src]
theorem numEnd_sh {k : Nat} {S S' : LS} (h : Sh k S S') : numEnd S' = numEnd S + k := by
  unfold numEnd
  rw [h.pl, h.src.size, show S.src.size + k - (S.pl + k) = S.src.size - S.pl by omega, run_sh h.src]
theorem wordAt_sh {k : Nat} {S S' : LS} (h : Sh k S S') : wordAt S' = wordAt S := by
  have := wordEnd_sh h
  unfold wordEnd at this
  unfold wordAt
  rw [this, h.pl, h.src.ext]
theorem numAt_sh {k : Nat} {S S' : LS} (h : Sh k S S') : numAt S' = numAt S := by
  have := numEnd_sh h
  unfold numEnd at this
  unfold numAt
  rw [this, h.pl, h.src.ext]
theorem strT_sh {k : Nat} {s s' : ByteArray} (h : Shs k s s') (p : Nat) (acc : List UInt8) : strT s' (p + k) acc = strUp k (strT s p acc) := by
  unfold strT
  rw [h.size, show s.size + k - (p + k) = s.size - p by omega, str_sh h]

theorem advS_sh {k : Nat} {S S' : LS} (h : Sh k S S') : RelA k (advS S) (advS S') := by
  have hsz := h.src.size
  have hlt : (S'.pl < S'.src.size) ↔ (S.pl < S.src.size) := by rw [h.pl, hsz]; omega
  have e1 : byteAt S'.src S'.pl = byteAt S.src S.pl := by rw [h.pl]; exact byteAt_sh h.src _
  have e2 : signP S'.src S'.pl = signP S.src S.pl := by rw [h.pl]; exact sign_sh h.src _
  have e3 : strT S'.src (S'.pl + 1) [] = strUp k (strT S.src (S.pl + 1) []) := by rw [h.pl, show S.pl + k + 1 = S.pl + 1 + k by omega]; exact strT_sh h.src _ _
  unfold advS
  simp only [hlt, e1, e2, e3, wordAt_sh h, numAt_sh h, wordEnd_sh h, numEnd_sh h]
  split
  · split
    · split
      · exact ⟨h.src, rfl, h.ln, rfl, h.tp, h.tl, rfl, h.tx, h.nn, h.dp⟩
      · split
        · show _ = _
          rw [h.tp]
        · exact ⟨h.src, rfl, h.ln, rfl, h.tp, h.tl, h.mrk, rfl, h.nn, h.dp⟩
    · split
      · split
        · split
          · show _ = _
            rw [h.tp]
          · exact ⟨h.src, rfl, h.ln, rfl, h.tp, h.tl, h.mrk, h.tx, rfl, h.dp⟩
        · show _ = _
          rw [h.tp]
      · split
        · cases strT S.src (S.pl + 1) [] with
          | inl q => rfl
          | inr x =>
            obtain ⟨said, q⟩ := x
            show RelA k (if 300 < said.length then _ else _) (if 300 < said.length then _ else _)
            split
            · show _ = _
              rw [h.tp]
            · exact ⟨h.src, rfl, h.ln, rfl, h.tp, h.tl, h.mrk, rfl, h.nn, h.dp⟩
        · split
          · show _ = _
            rw [h.tp]
          · refine ⟨h.src, ?_, h.ln, rfl, h.tp, h.tl, ?_, h.tx, h.nn, h.dp⟩
            · show S'.pl + _ = S.pl + _ + k
              rw [h.pl]; omega
            · show S'.src.extract S'.pl (S'.pl + _) = _
              rw [h.pl, show S.pl + k + signP S.src S.pl = S.pl + signP S.src S.pl + k by omega, h.src.ext]
  · exact h
theorem advP_sh {k : Nat} {S S' : LS} (h : Sh k S S') : RelA k (advP S) (advP S') := by
  unfold advP
  have : skipP S'.src (S'.src.size - S'.pl) S'.pl S'.ln = ((skipP S.src (S.src.size - S.pl) S.pl S.ln).1 + k, (skipP S.src (S.src.size - S.pl) S.pl S.ln).2 + k) := by
    rw [h.src.size, h.pl, h.ln, show S.src.size + k - (S.pl + k) = S.src.size - S.pl by omega, skip_sh h.src]
  rw [this]
  exact advS_sh (fresh_sh h)

/-- One tree is another, each of its lines k more. -/
def UpT (k : Nat) : Tree → Tree → Prop
  | ⟨kd, tx, un, n, ln, kids⟩, t' => t'.kind = kd ∧ t'.text = tx ∧ t'.under = un ∧ t'.n = n ∧ t'.line = ln + k ∧ ln ≤ 3001 ∧ t'.kids.length = kids.length ∧
    ∀ (i : Nat) (h : i < kids.length), have : SizeOf.sizeOf kids[i] < SizeOf.sizeOf kids := List.sizeOf_lt_of_mem (List.getElem_mem h); ∀ h' : i < t'.kids.length, UpT k kids[i] t'.kids[i]
theorem UpT_iff (k : Nat) (t t' : Tree) : UpT k t t' ↔ t'.kind = t.kind ∧ t'.text = t.text ∧ t'.under = t.under ∧ t'.n = t.n ∧ t'.line = t.line + k ∧ t.line ≤ 3001 ∧ t'.kids.length = t.kids.length ∧
    ∀ (i : Nat) (h : i < t.kids.length) (h' : i < t'.kids.length), UpT k t.kids[i] t'.kids[i] := by
  obtain ⟨kd, tx, un, n, ln, kids⟩ := t
  rw [UpT]
def UpL (k : Nat) (l l' : List Tree) : Prop := l'.length = l.length ∧ ∀ (i : Nat) (h : i < l.length) (h' : i < l'.length), UpT k l[i] l'[i]
theorem UpL.nil (k : Nat) : UpL k [] [] := ⟨rfl, fun i h => absurd h (Nat.not_lt_zero i)⟩
theorem UpL.snoc {k : Nat} {l l' : List Tree} {t t' : Tree} (h : UpL k l l') (ht : UpT k t t') : UpL k (l ++ [t]) (l' ++ [t']) := by
  refine ⟨by simp [h.1], fun i hi hi' => ?_⟩
  by_cases hl : i < l.length
  · rw [List.getElem_append_left hl, List.getElem_append_left (by rw [h.1]; exact hl)]
    exact h.2 i hl _
  · have e : i = l.length := by simp at hi; omega
    subst e
    have e1 : (l ++ [t])[l.length]'hi = t := by simp
    have e2 : (l' ++ [t'])[l.length]'hi' = t' := by
      rw [List.getElem_append_right (by rw [h.1]; exact Nat.le_refl _)]
      simp [h.1]
    rw [e1, e2]
    exact ht
theorem UpL.cons {k : Nat} {l l' : List Tree} {t t' : Tree} (ht : UpT k t t') (h : UpL k l l') : UpL k (t :: l) (t' :: l') := by
  refine ⟨by simp [h.1], fun i hi hi' => ?_⟩
  cases i with
  | zero => exact ht
  | succ i => exact h.2 i (by simpa using hi) (by simpa using hi')
theorem UpL.one {k : Nat} {t t' : Tree} (ht : UpT k t t') : UpL k [t] [t'] := UpL.cons ht (UpL.nil k)
theorem UpL.two {k : Nat} {t t' u u' : Tree} (ht : UpT k t t') (hu : UpT k u u') : UpL k [t, u] [t', u'] := UpL.cons ht (UpL.one hu)
theorem UpT.of {k kd : Nat} {tx un : ByteArray} {n : Int} {ln ln' : Nat} {l l' : List Tree} (hln : ln' = ln + k) (hlb : ln ≤ 3001) (h : UpL k l l') : UpT k ⟨kd, tx, un, n, ln, l⟩ ⟨kd, tx, un, n, ln', l'⟩ := by
  rw [UpT_iff]
  exact ⟨rfl, rfl, rfl, rfl, hln, hlb, h.1, h.2⟩
theorem UpT.line {k : Nat} {t t' : Tree} (h : UpT k t t') : t'.line = t.line + k := by
  rw [UpT_iff] at h
  exact h.2.2.2.2.1
theorem UpT.bound {k : Nat} {t t' : Tree} (h : UpT k t t') : t.line ≤ 3001 := by
  rw [UpT_iff] at h
  exact h.2.2.2.2.2.1
theorem UpT.around {k kd : Nat} {tx un : ByteArray} {n : Int} {t t' : Tree} {l l' : List Tree} (ht : UpT k t t') (h : UpL k l l') : UpT k ⟨kd, tx, un, n, t.line, l⟩ ⟨kd, tx, un, n, t'.line, l'⟩ := UpT.of ht.line ht.bound h
theorem UpT.kind {k : Nat} {t t' : Tree} (h : UpT k t t') : t'.kind = t.kind := by
  rw [UpT_iff] at h
  exact h.1

/-- What reads one text reads the other alike. -/
def ShP {α : Type} (k : Nat) (R : α → α → Prop) (P : LS → Res α) : Prop := ∀ S S', ShO k S S' → RelR k R (P S) (P S')

theorem bnd_rel {α β : Type} {k : Nat} {R : α → α → Prop} {R2 : β → β → Prop} {t t' : Res α} {g g' : α → LS → Res β} (h : RelR k R t t') (hg : ∀ a a' S S', R a a' → ShO k S S' → RelR k R2 (g a S) (g' a' S')) : RelR k R2 (bnd t g) (bnd t' g') := by
  match t, t', h with
  | .inl f, .inl f', h => exact h
  | .inr (a, S), .inr (a', S'), h => exact hg a a' S S' h.1 h.2
theorem ite_rel {α : Type} {k : Nat} {R : α → α → Prop} {c c' : Prop} [Decidable c] [Decidable c'] {a a' b b' : Res α} (hc : c' ↔ c) (ha : c → RelR k R a a') (hb : ¬ c → RelR k R b b') : RelR k R (if c then a else b) (if c' then a' else b') := by
  by_cases h : c
  · rw [if_pos h, if_pos (hc.2 h)]; exact ha h
  · rw [if_neg h, if_neg (fun x => h (hc.1 x))]; exact hb h
theorem ShO.is {k : Nat} {S S' : LS} (h : ShO k S S') (m : ByteArray) : (S'.is m = true) ↔ (S.is m = true) := by
  unfold LS.is
  rw [h.kd, h.mrk]
theorem inl_rel {α : Type} {k : Nat} {R : α → α → Prop} {S S' : LS} (h : ShO k S S') (e : Int) : RelR k R (.inl (e, S.tp)) (.inl (e, S'.tp)) := by
  show _ = _
  rw [h.tp]

theorem ShO.up {k : Nat} {S S' : LS} (h : ShO k S S') {kd : Nat} {tx un : ByteArray} {n : Int} {l l' : List Tree} (hl : UpL k l l') : UpT k ⟨kd, tx, un, n, S.tl, l⟩ ⟨kd, tx, un, n, S'.tl, l'⟩ := UpT.of h.tl h.tlb hl
theorem take_sh (k : Nat) : ShP k Eq takeP := fun S S' h => by
  have := advP_sh h.sh
  unfold takeP
  cases h1 : advP S with
  | inl f =>
    cases h2 : advP S' with
    | inl f' => rw [h1, h2] at this; exact this
    | inr _ => rw [h1, h2] at this; exact this.elim
  | inr T =>
    cases h2 : advP S' with
    | inl _ => rw [h1, h2] at this; exact this.elim
    | inr T' => rw [h1, h2] at this; exact ⟨rfl, this, (advP_ok h.ok.fit h1).1⟩
theorem accept_sh (k : Nat) (m : ByteArray) : ShP k Eq (acceptP m) := fun S S' h => ite_rel (h.is m) (fun _ => bnd_rel (take_sh k S S' h) fun _ _ _ _ _ h1 => ⟨rfl, h1⟩) fun _ => ⟨rfl, h⟩
theorem want_sh (k : Nat) (m : ByteArray) : ShP k Eq (wantP m) := fun S S' h => ite_rel (h.is m) (fun _ => take_sh k S S' h) fun _ => inl_rel h 3
theorem name_sh (k : Nat) : ShP k Eq nameP := fun S S' h => ite_rel (by rw [h.kd]) (fun _ => bnd_rel (take_sh k S S' h) fun _ _ _ _ _ h1 => ⟨h.tx.symm, h1⟩) fun _ => inl_rel h 3
theorem limit_sh (k n : Nat) : ShP k Eq (limitP n) := fun S S' h => ite_rel Iff.rfl (fun _ => inl_rel h 4) fun _ => ⟨rfl, h⟩
theorem b_iff {b b' : Bool} (h : b = b') : (b' = true) ↔ (b = true) := by rw [h]

theorem leaf_sh (k kd : Nat) : ShP k (UpT k) (leafP kd) := fun S S' h => bnd_rel (take_sh k S S' h) fun _ _ _ _ _ h1 => ⟨by
  show UpT k ⟨kd, S.tx, noText, S.nn, S.tl, []⟩ ⟨kd, S'.tx, noText, S'.nn, S'.tl, []⟩
  rw [h.tx, h.nn]
  exact h.up (UpL.nil k), h1⟩
theorem param_sh (k : Nat) : ShP k (UpT k) paramP := fun S S' h => bnd_rel (name_sh k S S' h) fun a a' _ _ e h1 => ⟨by rw [← e]; exact h.up (UpL.nil k), h1⟩
theorem listLoop_sh {k : Nat} (shut : ByteArray) {P : LS → Res Tree} (hP : ShP k (UpT k) P) : ∀ (f : Nat) (acc acc' : List Tree), UpL k acc acc' → ∀ S S', ShO k S S' → RelR k (UpL k) (listLoop shut P f acc S) (listLoop shut P f acc' S')
  | 0, _, _, _, _, _, h => inl_rel h 0
  | f + 1, acc, acc', ha, S, S', h => by
    rw [listLoop, listLoop, ha.1]
    refine bnd_rel (limit_sh k acc.length S S' h) fun _ _ S0 S0' _ h0 => bnd_rel (hP S0 S0' h0) fun t t' S1 S1' ht h1 => bnd_rel (accept_sh k shut S1 S1' h1) fun b b' S2 S2' hb h2 => ite_rel (b_iff hb) (fun _ => ⟨ha.snoc ht, h2⟩) fun _ => bnd_rel (want_sh k tComma S2 S2' h2) fun _ _ S3 S3' _ h3 => listLoop_sh shut hP f _ _ (ha.snoc ht) S3 S3' h3
theorem listed_sh {k : Nat} (shut : ByteArray) {P : LS → Res Tree} (hP : ShP k (UpT k) P) : ShP k (UpL k) (listedP shut P) := fun S S' h =>
  bnd_rel (accept_sh k shut S S' h) fun b b' S1 S1' hb h1 => ite_rel (b_iff hb) (fun _ => ⟨UpL.nil k, h1⟩) fun _ => listLoop_sh shut hP 9 [] [] (UpL.nil k) S1 S1' h1
theorem params_sh (k : Nat) : ShP k (UpT k) paramsP := fun S S' h => bnd_rel (want_sh k tOpen S S' h) fun _ _ S1 S1' _ h1 => bnd_rel (listed_sh tShut (param_sh k) S1 S1' h1) fun _ _ _ _ hl h2 => ⟨h.up hl, h2⟩
theorem until_sh {k : Nat} (shut : ByteArray) {P : LS → Res Tree} (hP : ShP k (UpT k) P) : ∀ (f : Nat) (acc acc' : List Tree), UpL k acc acc' → ∀ S S', ShO k S S' → RelR k (UpL k) (untilP shut P f acc S) (untilP shut P f acc' S')
  | 0, _, _, _, _, _, h => inl_rel h 0
  | f + 1, _, _, ha, S, S', h => by
    rw [untilP, untilP]
    exact bnd_rel (accept_sh k shut S S' h) fun b b' S1 S1' hb h1 => ite_rel (b_iff hb) (fun _ => ⟨ha, h1⟩) fun _ => bnd_rel (hP S1 S1' h1) fun t t' S2 S2' ht h2 => until_sh shut hP f _ _ (ha.snoc ht) S2 S2' h2

structure LowSh (k : Nat) (L : Low) : Prop where
  v : ShP k (UpT k) L.V
  s : ShP k (UpT k) L.S
  n : ShP k (UpT k) L.N

theorem block_sh {k : Nat} {L : Low} (hL : LowSh k L) : ShP k (UpT k) (blockP L) := fun S S' h => bnd_rel (want_sh k tLeft S S' h) fun _ _ S1 S1' _ h1 => bnd_rel (until_sh tRight hL.s 3002 [] [] (UpL.nil k) S1 S1' h1) fun _ _ _ _ hl h2 => ⟨h.up hl, h2⟩
theorem body_sh {k : Nat} {L : Low} (hL : LowSh k L) : ShP k (fun a b => UpT k a.1 b.1 ∧ UpT k a.2 b.2) (bodyP L) := fun S S' h => bnd_rel (params_sh k S S' h) fun _ _ S1 S1' hp h1 => bnd_rel (block_sh hL S1 S1' h1) fun _ _ _ _ hb h2 => ⟨⟨hp, hb⟩, h2⟩
theorem inPar_sh {k : Nat} {L : Low} (hL : LowSh k L) : ShP k (UpT k) (inParP L) := fun S S' h => bnd_rel (want_sh k tOpen S S' h) fun _ _ S1 S1' _ h1 => bnd_rel (hL.v S1 S1' h1) fun _ _ S2 S2' ht h2 => bnd_rel (want_sh k tShut S2 S2' h2) fun _ _ _ _ _ h3 => ⟨ht, h3⟩
theorem args_sh {k : Nat} {L : Low} (hL : LowSh k L) : ShP k (UpL k) (argsP L) := listed_sh tShut hL.v
theorem method_sh {k : Nat} {L : Low} (hL : LowSh k L) : ShP k (UpT k) (methodP L) := fun S S' h => bnd_rel (name_sh k S S' h) fun a a' S1 S1' e h1 => bnd_rel (body_sh hL S1 S1' h1) fun _ _ _ _ hb h2 => ⟨by rw [← e]; exact h.up (UpL.two hb.1 hb.2), h2⟩
theorem fn_sh {k : Nat} {L : Low} (hL : LowSh k L) : ShP k (UpT k) (fnP L) := fun S S' h => bnd_rel (take_sh k S S' h) fun _ _ S0 S0' _ h0 => bnd_rel (name_sh k S0 S0' h0) fun a a' S1 S1' e h1 => bnd_rel (body_sh hL S1 S1' h1) fun _ _ _ _ hb h2 => ⟨by rw [← e]; exact h.up (UpL.two hb.1 hb.2), h2⟩
theorem lambda_sh {k : Nat} {L : Low} (hL : LowSh k L) : ShP k (UpT k) (lambdaP L) := fun S S' h => bnd_rel (take_sh k S S' h) fun _ _ S1 S1' _ h1 => bnd_rel (body_sh hL S1 S1' h1) fun _ _ _ _ hb h2 => ⟨h.up (UpL.two hb.1 hb.2), h2⟩
theorem field_sh {k : Nat} (n : Nat) : ShP k (UpT k) (fieldP n) := fun S S' h => bnd_rel (take_sh k S S' h) fun _ _ S1 S1' _ h1 => bnd_rel (limit_sh k n S1 S1' h1) fun _ _ S2 S2' _ h2 => bnd_rel (name_sh k S2 S2' h2) fun a a' S3 S3' e h3 => bnd_rel (want_sh k tSemi S3 S3' h3) fun _ _ _ _ _ h4 => ⟨by rw [← e]; exact h.up (UpL.nil k), h4⟩
theorem fields_sh {k : Nat} : ∀ (f : Nat) (acc acc' : List Tree), UpL k acc acc' → ∀ S S', ShO k S S' → RelR k (UpL k) (fieldsP f acc S) (fieldsP f acc' S')
  | 0, _, _, _, _, _, h => inl_rel h 0
  | f + 1, acc, acc', ha, S, S', h => by
    rw [fieldsP, fieldsP, ha.1]
    exact ite_rel (h.is wField) (fun _ => bnd_rel (field_sh acc.length S S' h) fun t t' S1 S1' ht h1 => fields_sh f _ _ (ha.snoc ht) S1 S1' h1) fun _ => ⟨ha, h⟩
theorem under_sh {k : Nat} : ShP k Eq underP := fun S S' h => bnd_rel (accept_sh k tLess S S' h) fun b b' S1 S1' hb h1 => ite_rel (b_iff hb) (fun _ => name_sh k S1 S1' h1) fun _ => ⟨rfl, h1⟩
theorem class_sh {k : Nat} {L : Low} (hL : LowSh k L) : ShP k (UpT k) (classP L) := fun S S' h => bnd_rel (take_sh k S S' h) fun _ _ S1 S1' _ h1 => bnd_rel (name_sh k S1 S1' h1) fun s s' S2 S2' es h2 => bnd_rel (under_sh S2 S2' h2) fun u u' S3 S3' eu h3 => bnd_rel (want_sh k tLeft S3 S3' h3) fun _ _ S4 S4' _ h4 =>
  bnd_rel (fields_sh 10 [] [] (UpL.nil k) S4 S4' h4) fun fs fs' S5 S5' hf h5 => bnd_rel (until_sh tRight (method_sh hL) 3002 fs fs' hf S5 S5' h5) fun _ _ _ _ hl h6 => ⟨by rw [← es, ← eu]; exact h.up hl, h6⟩
theorem outermost_sh {k : Nat} {L : Low} (hL : LowSh k L) : ShP k (UpT k) (outermostP L) := fun S S' h => ite_rel (h.is wClass) (fun _ => class_sh hL S S' h) fun _ => ite_rel (h.is wFn) (fun _ => fn_sh hL S S' h) fun _ => hL.s S S' h
theorem progLoop_sh {k : Nat} {L : Low} (hL : LowSh k L) : ∀ (f : Nat) (acc acc' : List Tree), UpL k acc acc' → ∀ S S', ShO k S S' → RelR k (UpL k) (progLoop L f acc S) (progLoop L f acc' S')
  | 0, _, _, _, _, _, h => inl_rel h 0
  | f + 1, acc, acc', ha, S, S', h => by
    rw [progLoop, progLoop]
    exact ite_rel (by rw [h.kd]) (fun _ => ⟨ha, h⟩) fun _ => bnd_rel (outermost_sh hL S S' h) fun t t' S1 S1' ht h1 => progLoop_sh hL f _ _ (ha.snoc ht) S1 S1' h1
theorem program_sh {k : Nat} {L : Low} (hL : LowSh k L) : ShP k (UpT k) (programP L) := fun S S' h => bnd_rel (progLoop_sh hL 3002 [] [] (UpL.nil k) S S' h) fun _ _ _ _ hl h1 => ⟨h.up hl, h1⟩
theorem close_sh {k : Nat} {P : LS → Res Tree} (hP : ShP k (UpT k) P) : ShP k (UpT k) (closeP P) := fun S S' h => bnd_rel (hP S S' h) fun _ _ S1 S1' ht h1 => bnd_rel (want_sh k tSemi S1 S1' h1) fun _ _ _ _ _ h2 => ⟨ht, h2⟩
theorem variable_sh {k : Nat} {L : Low} (hL : LowSh k L) : ShP k (UpT k) (variableP L) := fun S S' h => bnd_rel (take_sh k S S' h) fun _ _ S1 S1' _ h1 => bnd_rel (name_sh k S1 S1' h1) fun s s' S2 S2' es h2 => bnd_rel (want_sh k tEqual S2 S2' h2) fun _ _ S3 S3' _ h3 => bnd_rel (close_sh hL.v S3 S3' h3) fun _ _ _ _ ht h4 => ⟨by rw [← es]; exact h.up (UpL.one ht), h4⟩
theorem guarded_sh {k : Nat} {L : Low} (hL : LowSh k L) (kd : Nat) : ShP k (UpT k) (guardedP L kd) := fun S S' h => bnd_rel (take_sh k S S' h) fun _ _ S1 S1' _ h1 => bnd_rel (inPar_sh hL S1 S1' h1) fun _ _ S2 S2' hc h2 => bnd_rel (block_sh hL S2 S2' h2) fun _ _ _ _ hb h3 => ⟨h.up (UpL.two hc hb), h3⟩
theorem UpT.more {k : Nat} {t t' u u' : Tree} (ht : UpT k t t') (hu : UpT k u u') : UpT k { t with kids := t.kids ++ [u] } { t' with kids := t'.kids ++ [u'] } := by
  rw [UpT_iff] at ht ⊢
  obtain ⟨h1, h2, h3, h4, h5, hb, h6, h7⟩ := ht
  have := UpL.snoc ⟨h6, h7⟩ hu
  exact ⟨h1, h2, h3, h4, h5, hb, this.1, this.2⟩
theorem choice_sh {k : Nat} {L : Low} (hL : LowSh k L) : ShP k (UpT k) (choiceP L) := fun S S' h => bnd_rel (guarded_sh hL 10 S S' h) fun t t' S1 S1' ht h1 => bnd_rel (accept_sh k wElse S1 S1' h1) fun b b' S2 S2' hb h2 => ite_rel (b_iff hb) (fun _ => bnd_rel (block_sh hL S2 S2' h2) fun _ _ _ _ hu h3 => ⟨ht.more hu, h3⟩) fun _ => ⟨ht, h2⟩
theorem returned_sh {k : Nat} {L : Low} (hL : LowSh k L) : ShP k (UpT k) (returnedP L) := fun S S' h => bnd_rel (take_sh k S S' h) fun _ _ S1 S1' _ h1 => bnd_rel (accept_sh k tSemi S1 S1' h1) fun b b' S2 S2' hb h2 => ite_rel (b_iff hb) (fun _ => ⟨h.up (UpL.nil k), h2⟩) fun _ => bnd_rel (close_sh hL.v S2 S2' h2) fun _ _ _ _ ht h3 => ⟨h.up (UpL.one ht), h3⟩
theorem end_sh {k : Nat} (kd : Nat) {P : LS → Res Tree} (hP : ShP k (UpT k) P) : ShP k (UpT k) (endP kd P) := fun S S' h => bnd_rel (take_sh k S S' h) fun _ _ S1 S1' _ h1 => bnd_rel (close_sh hP S1 S1' h1) fun _ _ _ _ ht h2 => ⟨h.up (UpL.one ht), h2⟩
theorem catch_sh {k : Nat} {L : Low} (hL : LowSh k L) : ShP k (UpT k) (catchP L) := fun S S' h => bnd_rel (want_sh k wCatch S S' h) fun _ _ S1 S1' _ h1 => bnd_rel (want_sh k tOpen S1 S1' h1) fun _ _ S2 S2' _ h2 => bnd_rel (name_sh k S2 S2' h2) fun s s' S3 S3' es h3 => bnd_rel (want_sh k tShut S3 S3' h3) fun _ _ S4 S4' _ h4 => bnd_rel (block_sh hL S4 S4' h4) fun _ _ _ _ hb h5 => ⟨by rw [← es]; exact h.up (UpL.one hb), h5⟩
theorem try_sh {k : Nat} {L : Low} (hL : LowSh k L) : ShP k (UpT k) (tryP L) := fun S S' h => bnd_rel (take_sh k S S' h) fun _ _ S1 S1' _ h1 => bnd_rel (block_sh hL S1 S1' h1) fun _ _ S2 S2' hb h2 => bnd_rel (catch_sh hL S2 S2' h2) fun _ _ _ _ hc h3 => ⟨h.up (UpL.two hb hc), h3⟩
theorem bare_sh {k : Nat} {L : Low} (hL : LowSh k L) : ShP k (UpT k) (bareP L) := fun S S' h => bnd_rel (hL.v S S' h) fun t t' S1 S1' ht h1 => ite_rel (h1.is tEqual)
  (fun _ => ite_rel (by rw [ht.kind]) (fun _ => bnd_rel (take_sh k S1 S1' h1) fun _ _ S2 S2' _ h2 => bnd_rel (hL.v S2 S2' h2) fun _ _ S3 S3' hu h3 => bnd_rel (want_sh k tSemi S3 S3' h3) fun _ _ _ _ _ h4 => ⟨h.up (UpL.two ht hu), h4⟩) fun _ => inl_rel h 1)
  fun _ => bnd_rel (want_sh k tSemi S1 S1' h1) fun _ _ _ _ _ h2 => ⟨h.up (UpL.one ht), h2⟩
theorem any_sh {k : Nat} {L : Low} (hL : LowSh k L) : ShP k (UpT k) (anyP L) := fun S S' h => ite_rel (h.is wVar) (fun _ => variable_sh hL S S' h) fun _ => ite_rel (h.is wIf) (fun _ => choice_sh hL S S' h) fun _ => ite_rel (h.is wWhile) (fun _ => guarded_sh hL 11 S S' h) fun _ => ite_rel (h.is wReturn) (fun _ => returned_sh hL S S' h) fun _ =>
  ite_rel (h.is wThrow) (fun _ => end_sh 13 hL.v S S' h) fun _ => ite_rel (h.is wPrint) (fun _ => end_sh 16 (inPar_sh hL) S S' h) fun _ => ite_rel (h.is wTry) (fun _ => try_sh hL S S' h) fun _ => bare_sh hL S S' h
theorem joiner_sh {k : Nat} {S S' : LS} (h : ShO k S S') (lev : Nat) : joinerP lev S' = joinerP lev S := by
  unfold joinerP LS.is
  rw [h.kd, h.mrk]
theorem around_up {k : Nat} {kd : Nat} {t t' : Tree} {l l' : List Tree} (ht : UpT k t t') (hl : UpL k l l') : UpT k (around kd t l) (around kd t' l') := ht.around (UpL.cons ht hl)
theorem joinLoop_sh {k : Nat} (lev : Nat) {P : LS → Res Tree} (hP : ShP k (UpT k) P) : ∀ (f : Nat) (t t' : Tree), UpT k t t' → ∀ S S', ShO k S S' → RelR k (UpT k) (joinLoop lev P f t S) (joinLoop lev P f t' S')
  | 0, _, _, _, _, _, h => inl_rel h 0
  | f + 1, t, t', ht, S, S', h => by
    rw [joinLoop, joinLoop, joiner_sh h]
    exact ite_rel Iff.rfl (fun _ => ⟨ht, h⟩) fun _ => bnd_rel (take_sh k S S' h) fun _ _ S1 S1' _ h1 => bnd_rel (hP S1 S1' h1) fun u u' S2 S2' hu h2 => joinLoop_sh lev hP f _ _ (around_up ht (UpL.one hu)) S2 S2' h2
theorem join_sh {k : Nat} (lev : Nat) {P : LS → Res Tree} (hP : ShP k (UpT k) P) : ShP k (UpT k) (joinP lev P) := fun S S' h => bnd_rel (hP S S' h) fun t t' S1 S1' ht h1 => joinLoop_sh lev hP 3002 t t' ht S1 S1' h1
theorem jo_sh {k : Nat} {P : LS → Res Tree} (hP : ShP k (UpT k) P) : ∀ n, ShP k (UpT k) (jo P n)
  | 0 => hP
  | n + 1 => join_sh (6 - n) (jo_sh hP n)
theorem member_sh {k : Nat} {L : Low} (hL : LowSh k L) {t t' : Tree} (ht : UpT k t t') : ∀ S S', ShO k S S' → RelR k (UpT k) (memberP L t S) (memberP L t' S') := fun S S' h => bnd_rel (name_sh k S S' h) fun s s' S1 S1' es h1 => bnd_rel (accept_sh k tOpen S1 S1' h1) fun b b' S2 S2' hb h2 =>
  ite_rel (b_iff hb) (fun _ => bnd_rel (args_sh hL S2 S2' h2) fun _ _ _ _ hu h3 => ⟨by rw [← es]; exact ht.around (UpL.cons ht hu), h3⟩) fun _ => ⟨by rw [← es]; exact ht.around (UpL.one ht), h2⟩
theorem sufLoop_sh {k : Nat} {L : Low} (hL : LowSh k L) : ∀ (f : Nat) (t t' : Tree), UpT k t t' → ∀ S S', ShO k S S' → RelR k (UpT k) (sufLoop L f t S) (sufLoop L f t' S')
  | 0, _, _, _, _, _, h => inl_rel h 0
  | f + 1, t, t', ht, S, S', h => by
    rw [sufLoop, sufLoop]
    exact bnd_rel (accept_sh k tDot S S' h) fun b b' S1 S1' hb h1 => ite_rel (b_iff hb) (fun _ => bnd_rel (member_sh hL ht S1 S1' h1) fun u u' S2 S2' hu h2 => sufLoop_sh hL f u u' hu S2 S2' h2) fun _ =>
      bnd_rel (accept_sh k tSquare S1 S1' h1) fun b b' S2 S2' hb h2 => ite_rel (b_iff hb) (fun _ => bnd_rel (hL.v S2 S2' h2) fun u u' S3 S3' hu h3 => bnd_rel (want_sh k tSquared S3 S3' h3) fun _ _ S4 S4' _ h4 => sufLoop_sh hL f _ _ (around_up ht (UpL.one hu)) S4 S4' h4) fun _ =>
        bnd_rel (accept_sh k tOpen S2 S2' h2) fun b b' S3 S3' hb h3 => ite_rel (b_iff hb) (fun _ => bnd_rel (args_sh hL S3 S3' h3) fun us us' S4 S4' hu h4 => sufLoop_sh hL f _ _ (around_up ht hu) S4 S4' h4) fun _ => ⟨ht, h3⟩
theorem const_sh {k : Nat} {S S' : LS} (h : ShO k S S') : constP S' = constP S := by
  unfold constP LS.is
  rw [h.kd, h.mrk]
theorem named_sh {k : Nat} {L : Low} (hL : LowSh k L) (kd : Nat) {ln ln' : Nat} (hln : ln' = ln + k) (hlb : ln ≤ 3001) : ∀ S S', ShO k S S' → RelR k (UpT k) (namedP L kd ln S) (namedP L kd ln' S') := fun S S' h => bnd_rel (name_sh k S S' h) fun s s' S1 S1' es h1 => bnd_rel (want_sh k tOpen S1 S1' h1) fun _ _ S2 S2' _ h2 => bnd_rel (args_sh hL S2 S2' h2) fun _ _ _ _ hu h3 => ⟨by rw [← es]; exact UpT.of hln hlb hu, h3⟩
theorem marked_sh {k : Nat} {L : Low} (hL : LowSh k L) : ShP k (UpT k) (markedP L) := fun S S' h => ite_rel (h.is tOpen) (fun _ => inPar_sh hL S S' h) fun _ =>
  ite_rel (h.is tSquare) (fun _ => bnd_rel (take_sh k S S' h) fun _ _ S1 S1' _ h1 => bnd_rel (listed_sh tSquared hL.v S1 S1' h1) fun _ _ _ _ hu h2 => ⟨h.up hu, h2⟩) fun _ =>
  ite_rel (h.is wFn) (fun _ => lambda_sh hL S S' h) fun _ =>
  ite_rel (h.is wNew) (fun _ => bnd_rel (take_sh k S S' h) fun _ _ S1 S1' _ h1 => named_sh hL 25 h.tl h.tlb S1 S1' h1) fun _ =>
  ite_rel (h.is wSuper) (fun _ => bnd_rel (take_sh k S S' h) fun _ _ S1 S1' _ h1 => bnd_rel (want_sh k tDot S1 S1' h1) fun _ _ S2 S2' _ h2 => named_sh hL 26 h.tl h.tlb S2 S2' h2) fun _ =>
  ite_rel (h.is wInput) (fun _ => bnd_rel (take_sh k S S' h) fun _ _ S1 S1' _ h1 => bnd_rel (want_sh k tOpen S1 S1' h1) fun _ _ S2 S2' _ h2 => bnd_rel (want_sh k tShut S2 S2' h2) fun _ _ _ _ _ h3 => ⟨h.up (UpL.nil k), h3⟩) fun _ =>
  ite_rel (h.is wLen) (fun _ => bnd_rel (take_sh k S S' h) fun _ _ S1 S1' _ h1 => bnd_rel (inPar_sh hL S1 S1' h1) fun _ _ _ _ ht h2 => ⟨h.up (UpL.one ht), h2⟩) fun _ => inl_rel h 3
theorem simple_sh {k : Nat} {L : Low} (hL : LowSh k L) : ShP k (UpT k) (simpleP L) := fun S S' h => ite_rel (by rw [h.kd]) (fun _ => leaf_sh k 24 S S' h) fun _ => ite_rel (by rw [h.kd]) (fun _ => leaf_sh k 18 S S' h) fun _ => ite_rel (by rw [h.kd]) (fun _ => leaf_sh k 19 S S' h) fun _ =>
  ite_rel (by rw [const_sh h]) (fun _ => marked_sh hL S S' h) fun _ => by rw [const_sh h]; exact leaf_sh k (constP S) S S' h
theorem suffixed_sh {k : Nat} {L : Low} (hL : LowSh k L) : ShP k (UpT k) (suffixedP L) := fun S S' h => bnd_rel (simple_sh hL S S' h) fun t t' S1 S1' ht h1 => sufLoop_sh hL 3002 t t' ht S1 S1' h1
theorem signed_sh {k : Nat} {L : Low} (hL : LowSh k L) (kd : Nat) : ShP k (UpT k) (signedP L kd) := fun S S' h => bnd_rel (take_sh k S S' h) fun _ _ S1 S1' _ h1 => bnd_rel (hL.n S1 S1' h1) fun _ _ _ _ ht h2 => ⟨h.up (UpL.one ht), h2⟩
theorem prefixed_sh {k : Nat} {L : Low} (hL : LowSh k L) : ShP k (UpT k) (prefixedP L) := fun S S' h => ite_rel (h.is tNot) (fun _ => signed_sh hL 41 S S' h) fun _ => ite_rel (h.is tMinus) (fun _ => signed_sh hL 40 S S' h) fun _ => suffixed_sh hL S S' h
theorem deep_sh {k : Nat} {P : LS → Res Tree} (hP : ShP k (UpT k) P) : ShP k (UpT k) (deepP P) := fun S S' h => ite_rel (by rw [h.dp]) (fun _ => inl_rel h 4) fun _ =>
  bnd_rel (hP { S with dp := S.dp + 1 } { S' with dp := S'.dp + 1 } ⟨⟨h.sh.src, h.sh.pl, h.sh.ln, h.kd, h.tp, h.tl, h.mrk, h.tx, h.nn, by show S'.dp + 1 = S.dp + 1; rw [h.dp]⟩, ⟨⟨h.ok.fit.size, h.ok.fit.pl, h.ok.fit.ln⟩, h.ok.tp, h.ok.tl, h.ok.now⟩⟩) fun _ _ S1 S1' ht h1 => ⟨ht, ⟨⟨h1.sh.src, h1.sh.pl, h1.sh.ln, h1.kd, h1.tp, h1.tl, h1.mrk, h1.tx, h1.nn, by show S1'.dp - 1 = S1.dp - 1; rw [h1.dp]⟩, ⟨⟨h1.ok.fit.size, h1.ok.fit.pl, h1.ok.fit.ln⟩, h1.ok.tp, h1.ok.tl, h1.ok.now⟩⟩⟩
theorem lower_sh (k : Nat) : ∀ d, LowSh k (lower d)
  | 0 => ⟨fun _ _ h => inl_rel h 4, fun _ _ h => inl_rel h 4, fun _ _ h => inl_rel h 4⟩
  | d + 1 => ⟨deep_sh (jo_sh (prefixed_sh (lower_sh k d)) 6), deep_sh (any_sh (lower_sh k d)), deep_sh (prefixed_sh (lower_sh k d))⟩

theorem shs_append (a s : ByteArray) : Shs a.size s (a ++ s) := by
  refine ⟨by rw [ByteArray.size_append]; omega, fun p h h' => ?_, fun i j => ?_⟩
  · rw [ByteArray.getElem_append_right (by omega)]
    congr 1
    omega
  · rw [Nat.add_comm i, Nat.add_comm j, ByteArray.extract_append_size_add]
/-- A reader ahead of its first token. -/
def firstS (s : ByteArray) (v : Value) : LS := ⟨s, 0, 1, 0, 0, 0, ⟨#[]⟩, ⟨#[]⟩, 0, 0, v⟩
theorem feeds {k : Nat} {s s' : ByteArray} (h : Shs k s s') (hf : ∀ (p : Nat) (h' : p < s'.size), p < k → s'[p].toNat = 10) : ∀ m, m ≤ k → skipP s' (s.size + m) (k - m) (1 + (k - m)) = skipP s' s.size k (1 + k)
  | 0, _ => rfl
  | m + 1, hm => by
    have hs := h.size
    have := feeds h hf m (by omega)
    rw [show s.size + (m + 1) = (s.size + m) + 1 by omega, skipP, dif_pos (show k - (m + 1) < s'.size by omega), if_pos (hf _ (by omega) (by omega)), show k - (m + 1) + 1 = k - m by omega, show 1 + (k - (m + 1)) + 1 = 1 + (k - m) by omega]
    exact this
/-- The first token of a text, and of the text with line feeds ahead. -/
theorem first_sh {k : Nat} {s s' : ByteArray} (h : Shs k s s') (hf : ∀ (p : Nat) (h' : p < s'.size), p < k → s'[p].toNat = 10) (v v' : Value) : RelA k (advP (firstS s v)) (advP (firstS s' v')) := by
  have h0 : skipP s' (s'.size - 0) 0 1 = ((skipP s (s.size - 0) 0 1).1 + k, (skipP s (s.size - 0) 0 1).2 + k) := by
    have e1 := feeds h hf k (Nat.le_refl _)
    have e2 := skip_sh h s.size 0 1
    rw [Nat.sub_self] at e1
    rw [Nat.sub_zero, Nat.sub_zero, h.size, e1, ← e2]
    congr 1 <;> omega
  show RelA k (advS ((firstS s v).fresh (skipP s (s.size - 0) 0 1).1 (skipP s (s.size - 0) 0 1).2)) (advS ((firstS s' v').fresh (skipP s' (s'.size - 0) 0 1).1 (skipP s' (s'.size - 0) 0 1).2))
  rw [h0]
  exact advS_sh ⟨h, rfl, rfl, rfl, rfl, rfl, rfl, rfl, rfl, rfl⟩
/-- What Parse reads: an error and its place, or a program. -/
def readP (s : ByteArray) (v : Value) : Res Tree := match advP (firstS s v) with
  | .inl f => .inl f
  | .inr S => programP (lower 26) S
/-- LINE FEEDS AHEAD. -/
theorem readP_sh {k : Nat} {s s' : ByteArray} (h : Shs k s s') (hs : s.size ≤ 3000) (hf : ∀ (p : Nat) (h' : p < s'.size), p < k → s'[p].toNat = 10) (v v' : Value) : RelR k (UpT k) (readP s v) (readP s' v') := by
  have := first_sh h hf v v'
  unfold readP
  cases h1 : advP (firstS s v) with
  | inl f =>
    cases h2 : advP (firstS s' v') with
    | inl f' => rw [h1, h2] at this; exact this
    | inr _ => rw [h1, h2] at this; exact this.elim
  | inr T =>
    cases h2 : advP (firstS s' v') with
    | inl _ => rw [h1, h2] at this; exact this.elim
    | inr T' => rw [h1, h2] at this; exact program_sh (lower_sh k 26) T T' ⟨this, (advP_ok ⟨hs, Nat.zero_le _, Nat.le_refl _⟩ h1).1⟩
end Go.Proofs.YtjcoobkpmpjpbaaGreatDoor
