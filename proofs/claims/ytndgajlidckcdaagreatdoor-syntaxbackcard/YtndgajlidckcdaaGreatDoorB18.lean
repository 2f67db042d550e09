/-
  A program's text is read again: bytes as tokens.
  A program's text is read again: the writer's tokens.
  A program's text is read again: the writer's tokens.
  A program's text is read again: the writer's tokens.
-/
import Derived.Test.YtndgajlidckcdaaGreatDoorB17
namespace Go.Proofs.YtndgajlidckcdaaGreatDoor
open Go.RowKit
set_option linter.unusedVariables false

theorem bs_len (s : ByteArray) : s.size = s.data.toList.length := Array.length_toList.symm
/-- The bytes from a place on. -/
def rest (s : ByteArray) (p : Nat) : List UInt8 := s.data.toList.drop p
theorem rest_cons {s : ByteArray} {p : Nat} {c : UInt8} {r : List UInt8} (h : rest s p = c :: r) : ∃ hp : p < s.size, s[p] = c ∧ rest s (p + 1) = r := by
  unfold rest at *
  have hl : p < s.data.toList.length := by
    rcases Nat.lt_or_ge p s.data.toList.length with q | q
    · exact q
    · rw [List.drop_eq_nil_of_le q] at h; cases h
  have hp : p < s.size := by rw [bs_len]; exact hl
  rw [List.drop_eq_getElem_cons hl] at h
  injection h with h1 h2
  exact ⟨hp, by rw [← h1]; rfl, h2⟩
theorem rest_nil {s : ByteArray} {p : Nat} (h : rest s p = []) : ¬ p < s.size := by
  unfold rest at h
  rw [List.drop_eq_nil_iff] at h
  have := bs_len s
  omega
theorem rest_byte {s : ByteArray} {p : Nat} {c : UInt8} {r : List UInt8} (h : rest s p = c :: r) : byteAt s p = c.toNat := by
  obtain ⟨hp, hc, _⟩ := rest_cons h
  rw [← byteAt_eq hp, hc]
theorem rest_app {s : ByteArray} {p : Nat} {a r : List UInt8} (h : rest s p = a ++ r) : rest s (p + a.length) = r := by
  unfold rest at *
  rw [← List.drop_drop, h, List.drop_left]
theorem rest_ext {s : ByteArray} {p : Nat} {a r : List UInt8} (h : rest s p = a ++ r) : s.extract p (p + a.length) = ⟨a.toArray⟩ := by
  unfold rest at h
  apply ByteArray.ext
  apply Array.toList_inj.1
  rw [ByteArray.data_extract, Array.toList_extract, List.extract_eq_take_drop, Nat.add_sub_cancel_left, h]
  show List.take a.length (a ++ r) = a
  rw [List.take_left]
theorem rest_all (s : ByteArray) (p : Nat) : (s.extract p s.size).data.toList = rest s p := by
  rw [ByteArray.data_extract, Array.toList_extract, List.extract_eq_take_drop, List.take_of_length_le]
  · rfl
  · rw [List.length_drop]; exact Nat.le_of_eq (by rw [bs_len])
theorem run_app {s : ByteArray} {B : Int → Bool} : ∀ (a : List UInt8) {p : Nat} {r : List UInt8}, rest s p = a ++ r → (∀ c ∈ a, B c.toNat = true) → (∀ c r', r = c :: r' → B c.toNat = false) → runP s B (s.size - p) p = p + a.length
  | [], p, r, h, _, hr => by
    cases r with
    | nil => exact run_end (rest_nil h)
    | cons c r' =>
      obtain ⟨hp, hc, _⟩ := rest_cons h
      exact run_no hp (by rw [hc]; exact hr c r' rfl)
  | c :: a, p, r, h, ha, hr => by
    obtain ⟨hp, hc, h1⟩ := rest_cons h
    rw [run_yes hp (by rw [hc]; exact ha c (List.mem_cons_self ..)), run_app a h1 (fun x hx => ha x (List.mem_cons_of_mem _ hx)) hr, List.length_cons]
    omega

/-- What a token is. -/
structure To where
  kd : Nat
  mr : ByteArray
  tx : ByteArray
  nn : Int
/-- A reader that stands at tokens. -/
def Stand : List To → LS → Prop
  | [], S => S.kd = 0
  | t :: ts, S => (S.kd = t.kd ∧ S.mrk = t.mr ∧ S.tx = t.tx ∧ S.nn = t.nn) ∧ ∃ S', advP S = .inr S' ∧ Stand ts S'
/-- Bytes are these tokens. -/
def Toks (r : List UInt8) (ts : List To) : Prop := ∀ S : LS, rest S.src S.pl = r → ∃ S', advP S = .inr S' ∧ Stand ts S'

theorem toks_nil : Toks [] [] := fun S h => by
  refine ⟨S.fresh S.pl S.ln, ?_, rfl⟩
  unfold advP
  rw [skip_end (rest_nil h)]
  exact advS_end (rest_nil h)
theorem Toks.blank {r : List UInt8} {ts : List To} (h : Toks r ts) : Toks (32 :: r) ts := fun S hS => by
  obtain ⟨hp, hc, hr⟩ := rest_cons hS
  obtain ⟨S', h1, h2⟩ := h { S with pl := S.pl + 1 } hr
  refine ⟨S', ?_, h2⟩
  rw [← h1]
  unfold advP
  rw [skip_blank hp (by rw [hc]; rfl)]
  rfl
theorem Toks.feed {r : List UInt8} {ts : List To} (h : Toks r ts) : Toks (10 :: r) ts := fun S hS => by
  obtain ⟨hp, hc, hr⟩ := rest_cons hS
  obtain ⟨S', h1, h2⟩ := h { S with pl := S.pl + 1, ln := S.ln + 1 } hr
  refine ⟨S', ?_, h2⟩
  rw [← h1]
  unfold advP
  rw [skip_feed hp (by rw [hc]; rfl)]
  rfl
/-- One token, and what stands behind it. -/
theorem Toks.one {c : UInt8} {b r : List UInt8} {t : To} {ts : List To} (h1 : c.toNat ≠ 10) (h2 : c.toNat ≠ 32) (h : Toks r ts)
    (ha : ∀ S : LS, rest S.src S.pl = (c :: b) ++ r → S.mrk = noText → S.tx = noText → S.nn = 0 → ∃ S1, advS S = .inr S1 ∧ (S1.kd = t.kd ∧ S1.mrk = t.mr ∧ S1.tx = t.tx ∧ S1.nn = t.nn) ∧ rest S1.src S1.pl = r) : Toks ((c :: b) ++ r) (t :: ts) := fun S hS => by
  obtain ⟨hp, hc, _⟩ := rest_cons (show rest S.src S.pl = c :: (b ++ r) from hS)
  obtain ⟨S1, a1, a2, a3⟩ := ha (S.fresh S.pl S.ln) hS rfl rfl rfl
  obtain ⟨S2, b1, b2⟩ := h S1 a3
  refine ⟨S1, ?_, a2, S2, b1, b2⟩
  unfold advP
  rw [skip_stop hp (by rw [hc]; exact h1) (by rw [hc]; exact h2)]
  exact a1

/-- Signs of one byte that begin no longer one. -/
def lones : List UInt8 := [40, 41, 123, 125, 91, 93, 59, 44, 46, 60, 43, 45, 42, 47, 37, 33]
theorem lones_all : ∀ c ∈ lones, c.toNat ≠ 10 ∧ c.toNat ≠ 32 ∧ lt c.toNat = false ∧ dg c.toNat = false ∧ c.toNat ≠ 34 ∧ c ≠ 124 ∧ c ≠ 38 ∧ c ≠ 61 ∧ 0 ≤ Lib.indexByte lone1.data.toList (c.toNat : Int).toNat.toUInt8 := by decide
def sg (l : List UInt8) : To := ⟨1, ⟨l.toArray⟩, noText, 0⟩
def nmT (s : ByteArray) : To := ⟨2, noText, s, 0⟩
def nuT (n : Int) : To := ⟨3, noText, noText, n⟩
def stT (s : ByteArray) : To := ⟨4, noText, s, 0⟩
theorem isTwin_eq (s : ByteArray) (p k : Nat) : isTwin s p k = (twins[k]?.getD ByteArray.empty).data.toList.isPrefixOf (rest s p) := by
  unfold isTwin Lib.hasPrefix
  rw [rest_all]
theorem no_twin {s : ByteArray} {p : Nat} {c : UInt8} {r : List UInt8} (h : rest s p = c :: r) (h1 : c ≠ 124) (h2 : c ≠ 38) (h3 : c ≠ 61 ∨ ∃ d r', r = d :: r' ∧ d ≠ 61) : ∀ k, k < 3 → isTwin s p k = false := fun k hk => by
  rw [isTwin_eq, h]
  match k, hk with
  | 0, _ => show ((124 : UInt8) == c && _) = false; rw [show ((124 : UInt8) == c) = false from beq_eq_false_iff_ne.2 (Ne.symm h1)]; rfl
  | 1, _ => show ((38 : UInt8) == c && _) = false; rw [show ((38 : UInt8) == c) = false from beq_eq_false_iff_ne.2 (Ne.symm h2)]; rfl
  | 2, _ =>
    show ((61 : UInt8) == c && List.isPrefixOf [61] r) = false
    rcases h3 with h3 | ⟨d, r', rfl, h3⟩
    · rw [show ((61 : UInt8) == c) = false from beq_eq_false_iff_ne.2 (Ne.symm h3)]; rfl
    · show ((61 : UInt8) == c && ((61 : UInt8) == d && _)) = false
      rw [show ((61 : UInt8) == d) = false from beq_eq_false_iff_ne.2 (Ne.symm h3)]; simp
theorem advS_sig {S : LS} {c : UInt8} {r : List UInt8} {n : Nat} (h : rest S.src S.pl = c :: r) (h1 : lt c.toNat = false) (h2 : dg c.toNat = false) (h3 : c.toNat ≠ 34) (hn : signP S.src S.pl = n + 1) : advS S = .inr { S with pl := S.pl + (n + 1), kd := 1, mrk := S.src.extract S.pl (S.pl + (n + 1)) } := by
  have hb := rest_byte h
  obtain ⟨hp, hc, _⟩ := rest_cons h
  rw [advS, if_pos hp, hb, if_neg (by rw [h1]; decide), if_neg (by rw [h2]; decide), if_neg h3, if_neg (by omega), hn]
theorem Toks.lone {c : UInt8} {r : List UInt8} {ts : List To} (hc : c ∈ lones) (h : Toks r ts) : Toks (c :: r) (sg [c] :: ts) := by
  obtain ⟨a1, a2, a3, a4, a5, a6, a7, a8, a9⟩ := lones_all c hc
  refine Toks.one (b := []) a1 a2 h fun S hS m1 m2 m3 => ?_
  have hS' : rest S.src S.pl = c :: r := hS
  obtain ⟨hp, hc, hr⟩ := rest_cons hS'
  have hn : signP S.src S.pl = 0 + 1 := sign_lone (no_twin hS' a6 a7 (Or.inl a8)) hp (by rw [hc]; exact a9)
  exact ⟨_, advS_sig hS' a3 a4 a5 hn, ⟨rfl, rest_ext (a := [c]) hS', m2, m3⟩, hr⟩
theorem Toks.equal {d : UInt8} {r : List UInt8} {ts : List To} (hd : d ≠ 61) (h : Toks (d :: r) ts) : Toks (61 :: d :: r) (sg [61] :: ts) := by
  refine Toks.one (b := []) (by decide) (by decide) h fun S hS m1 m2 m3 => ?_
  have hS' : rest S.src S.pl = 61 :: d :: r := hS
  obtain ⟨hp, hc, hr⟩ := rest_cons hS'
  have hn : signP S.src S.pl = 0 + 1 := sign_lone (no_twin hS' (by decide) (by decide) (Or.inr ⟨d, r, rfl, hd⟩)) hp (by rw [hc]; decide)
  exact ⟨_, advS_sig hS' (by decide) (by decide) (by decide) hn, ⟨rfl, rest_ext (a := [61]) hS', m2, m3⟩, hr⟩
theorem Toks.twin {c : UInt8} {r : List UInt8} {ts : List To} (hc : c ∈ ([124, 38, 61] : List UInt8)) (h : Toks r ts) : Toks (c :: c :: r) (sg [c, c] :: ts) := by
  obtain ⟨a1, a2, a3, a4, a5⟩ := (by decide : ∀ c ∈ ([124, 38, 61] : List UInt8), c.toNat ≠ 10 ∧ c.toNat ≠ 32 ∧ lt c.toNat = false ∧ dg c.toNat = false ∧ c.toNat ≠ 34) c hc
  refine Toks.one (b := [c]) a1 a2 h fun S hS m1 m2 m3 => ?_
  have hS' : rest S.src S.pl = c :: c :: r := hS
  have hn : signP S.src S.pl = 1 + 1 := by
    simp only [List.mem_cons, List.not_mem_nil, or_false] at hc
    rcases hc with rfl | rfl | rfl
    · exact sign_twin (k := 0) (by decide) (by rw [isTwin_eq, hS']; rfl)
    · exact sign_twin (k := 1) (by decide) (by rw [isTwin_eq, hS']; rfl)
    · exact sign_twin (k := 2) (by decide) (by rw [isTwin_eq, hS']; rfl)
  exact ⟨_, advS_sig hS' a3 a4 a5 hn, ⟨rfl, rest_ext (a := [c, c]) hS', m2, m3⟩, rest_app (a := [c, c]) hS'⟩

/-- No byte of a name stands first. -/
def nbz (r : List UInt8) : Prop := ∀ c r', r = c :: r' → nb c.toNat = false
theorem lt_not {c : UInt8} (h : lt c.toNat = true) : c.toNat ≠ 10 ∧ c.toNat ≠ 32 := by
  constructor <;> intro e <;> rw [e] at h <;> revert h <;> decide
theorem Toks.word {c : UInt8} {b r : List UInt8} {ts : List To} (h1 : lt c.toNat = true) (h2 : ∀ x ∈ c :: b, nb x.toNat = true) (hw : isW ⟨(c :: b).toArray⟩ = true) (hr : nbz r) (h : Toks r ts) : Toks ((c :: b) ++ r) (sg (c :: b) :: ts) := by
  refine Toks.one (lt_not h1).1 (lt_not h1).2 h fun S hS m1 m2 m3 => ?_
  have he : wordEnd S = S.pl + (c :: b).length := run_app (c :: b) hS h2 hr
  have hx : wordAt S = ⟨(c :: b).toArray⟩ := by show S.src.extract S.pl (wordEnd S) = _; rw [he]; exact rest_ext hS
  obtain ⟨hp, hc, _⟩ := rest_cons (show rest S.src S.pl = c :: (b ++ r) from hS)
  refine ⟨_, advS_word hp (by rw [rest_byte hS]; exact h1) (by rw [hx]; exact hw), ⟨rfl, hx, m2, m3⟩, ?_⟩
  show rest S.src (wordEnd S) = r
  rw [he]; exact rest_app hS
theorem Toks.name {c : UInt8} {b r : List UInt8} {ts : List To} (h1 : lt c.toNat = true) (h2 : ∀ x ∈ c :: b, nb x.toNat = true) (hw : isW ⟨(c :: b).toArray⟩ = false) (hl : (c :: b).length ≤ 16) (hr : nbz r) (h : Toks r ts) : Toks ((c :: b) ++ r) (nmT ⟨(c :: b).toArray⟩ :: ts) := by
  refine Toks.one (lt_not h1).1 (lt_not h1).2 h fun S hS m1 m2 m3 => ?_
  have he : wordEnd S = S.pl + (c :: b).length := run_app (c :: b) hS h2 hr
  have hx : wordAt S = ⟨(c :: b).toArray⟩ := by show S.src.extract S.pl (wordEnd S) = _; rw [he]; exact rest_ext hS
  obtain ⟨hp, hc, _⟩ := rest_cons (show rest S.src S.pl = c :: (b ++ r) from hS)
  refine ⟨_, advS_name hp (by rw [rest_byte hS]; exact h1) (by rw [hx]; exact hw) (by rw [hx]; exact hl), ⟨rfl, m1, hx, m3⟩, ?_⟩
  show rest S.src (wordEnd S) = r
  rw [he]; exact rest_app hS

theorem dig_ok {d : Nat} (h : d < 10) : (UInt8.ofNat (48 + d)).toNat = 48 + d := by
  rw [UInt8.toNat_ofNat']; omega
theorem dec_all (u : Nat) : ∀ c ∈ Lib.decDigits u, 48 ≤ c.toNat ∧ c.toNat ≤ 57 := by
  induction u using Nat.strongRecOn with
  | _ u ih =>
    intro c hc
    rw [Lib.decDigits] at hc
    split at hc
    · rw [List.mem_singleton.1 hc, dig_ok (by omega)]; omega
    · rcases List.mem_append.1 hc with q | q
      · exact ih (u / 10) (by omega) c q
      · rw [List.mem_singleton.1 q, dig_ok (by omega)]; omega
theorem dec_ne (u : Nat) : Lib.decDigits u ≠ [] := by
  rw [Lib.decDigits]
  split
  · exact List.cons_ne_nil _ _
  · intro e; have := congrArg List.length e; simp at this
theorem parse_dec (M : Nat) (hM : M = 2 ^ 64 - 1) : ∀ (u : Nat), u ≤ M → ∀ (r : List UInt8), Lib.parseUintM M 0 (Lib.decDigits u ++ r) = Lib.parseUintM M u r := by
  intro u
  induction u using Nat.strongRecOn with
  | _ u ih =>
    intro hu r
    rw [Lib.decDigits]
    split
    · rename_i h
      show Lib.parseUintM M 0 (UInt8.ofNat (48 + u) :: r) = _
      rw [Lib.parseUintM, dig_ok h, if_pos (by omega), if_neg (by omega), if_neg (by omega)]
      congr 1; omega
    · rename_i h
      rw [List.append_assoc, ih (u / 10) (by omega) (by omega)]
      show Lib.parseUintM M (u / 10) (UInt8.ofNat (48 + u % 10) :: r) = _
      rw [Lib.parseUintM, dig_ok (by omega), if_pos (by omega), if_neg (by omega), if_neg (by omega)]
      congr 1; omega
theorem parse_num {u : Nat} (h : u ≤ 9223372036854775808) : Lib.parseUintB 64 (Lib.decDigits u) = .ok u := by
  rw [Lib.parseUintB, if_neg (dec_ne u)]
  have := parse_dec (2 ^ 64 - 1) rfl u (by omega) []
  rw [List.append_nil] at this
  rw [this]
  rfl
theorem dg_of {c : UInt8} (h : 48 ≤ c.toNat ∧ c.toNat ≤ 57) : dg c.toNat = true ∧ lt c.toNat = false ∧ c.toNat ≠ 10 ∧ c.toNat ≠ 32 := by
  refine ⟨?_, ?_, by omega, by omega⟩
  · unfold dg; simp; omega
  · unfold lt; simp; omega
theorem nbz_dg {r : List UInt8} (h : nbz r) : ∀ c r', r = c :: r' → dg c.toNat = false := fun c r' e => by
  have := h c r' e
  unfold nb at this
  exact (Bool.or_eq_false_iff.1 this).2
theorem Toks.num {u : Nat} (hu : u ≤ 9223372036854775808) {r : List UInt8} {ts : List To} (hr : nbz r) (h : Toks r ts) : Toks (Lib.decDigits u ++ r) (nuT (wrap64 u) :: ts) := by
  have hall := dec_all u
  have hpar := parse_num hu
  cases hd : Lib.decDigits u with
  | nil => exact absurd hd (dec_ne u)
  | cons c b =>
    rw [hd] at hall hpar
    have hc0 := dg_of (hall c (List.mem_cons_self ..))
    refine Toks.one hc0.2.2.1 hc0.2.2.2 h fun S hS m1 m2 m3 => ?_
    have he : numEnd S = S.pl + (c :: b).length := run_app (c :: b) hS (fun x hx => (dg_of (hall x hx)).1) (nbz_dg hr)
    have hx : numAt S = ⟨(c :: b).toArray⟩ := by show S.src.extract S.pl (numEnd S) = _; rw [he]; exact rest_ext hS
    obtain ⟨hp, hc, _⟩ := rest_cons (show rest S.src S.pl = c :: (b ++ r) from hS)
    refine ⟨_, advS_num hp (by rw [rest_byte hS]; exact hc0.2.1) (by rw [rest_byte hS]; exact hc0.1) (u := u) (by rw [hx]; exact hpar) (by simp; omega), ⟨rfl, m1, m2, rfl⟩, ?_⟩
    show rest S.src (numEnd S) = r
    rw [he]; exact rest_app hS
theorem str_app {s : ByteArray} : ∀ (cs : List UInt8) {p : Nat} {acc r : List UInt8}, rest s p = cs.flatMap escL ++ 34 :: r → ∃ q, strT s p acc = .inr (acc ++ cs, q) ∧ rest s q = r
  | [], p, acc, r, h => by
    have h' : rest s p = 34 :: r := h
    obtain ⟨hp, hc, hr⟩ := rest_cons h'
    have hb := rest_byte h'
    exact ⟨p + 1, by rw [strT_quote ⟨hp, by rw [hb]; decide⟩ hb, List.append_nil], hr⟩
  | c :: cs, p, acc, r, h => by
    rw [List.flatMap_cons, List.append_assoc] at h
    have hac : ∀ x : List UInt8, acc ++ c :: x = (acc ++ [c]) ++ x := fun x => by simp
    rw [hac]
    unfold escL at h
    split at h
    · rename_i e; subst e
      have h' : rest s p = 92 :: 110 :: (cs.flatMap escL ++ 34 :: r) := h
      obtain ⟨hp, hc, hr⟩ := rest_cons h'
      obtain ⟨hp1, hc1, hr1⟩ := rest_cons hr
      have hb := rest_byte h'
      have hb1 := rest_byte hr
      obtain ⟨q, h1, h2⟩ := str_app cs (acc := acc ++ [10]) hr1
      exact ⟨q, by rw [strT_esc (c := 10) ⟨hp, by rw [hb]; decide⟩ hb ⟨hp1, by rw [hb1]; decide⟩ (by rw [hb1]; rfl)]; exact h1, h2⟩
    · split at h
      · rename_i e1 e2
        have h' : rest s p = 92 :: c :: (cs.flatMap escL ++ 34 :: r) := h
        obtain ⟨hp, hc, hr⟩ := rest_cons h'
        obtain ⟨hp1, hc1, hr1⟩ := rest_cons hr
        have hb := rest_byte h'
        have hb1 := rest_byte hr
        obtain ⟨q, h1, h2⟩ := str_app cs (acc := acc ++ [c]) hr1
        refine ⟨q, ?_, h2⟩
        rcases e2 with rfl | rfl
        · rw [strT_esc (c := 34) ⟨hp, by rw [hb]; decide⟩ hb ⟨hp1, by rw [hb1]; decide⟩ (by rw [hb1]; rfl)]; exact h1
        · rw [strT_esc (c := 92) ⟨hp, by rw [hb]; decide⟩ hb ⟨hp1, by rw [hb1]; decide⟩ (by rw [hb1]; rfl)]; exact h1
      · rename_i e1 e2
        have h' : rest s p = c :: (cs.flatMap escL ++ 34 :: r) := h
        obtain ⟨hp, hc, hr⟩ := rest_cons h'
        have hb := rest_byte h'
        obtain ⟨q, h1, h2⟩ := str_app cs (acc := acc ++ [c]) hr
        have n1 : c.toNat ≠ 10 := fun e => e1 (UInt8.toNat_inj.1 e)
        have n2 : c.toNat ≠ 34 := fun e => e2 (Or.inl (UInt8.toNat_inj.1 e))
        have n3 : c.toNat ≠ 92 := fun e => e2 (Or.inr (UInt8.toNat_inj.1 e))
        refine ⟨q, ?_, h2⟩
        rw [strT_plain ⟨hp, by rw [hb]; exact n1⟩ (by rw [hb]; exact n2) (by rw [hb]; exact n3), hb, UInt8.ofNat_toNat]
        exact h1
theorem Toks.str {s : ByteArray} (hs : s.size ≤ 300) {r : List UInt8} {ts : List To} (h : Toks r ts) : Toks ((xStr s).data.toList ++ r) (stT s :: ts) := by
  have e : (xStr s).data.toList ++ r = (34 :: (s.data.toList.flatMap escL ++ [34])) ++ r := by simp [xStr]
  rw [e]
  refine Toks.one (by decide) (by decide) h fun S hS m1 m2 m3 => ?_
  have hS' : rest S.src S.pl = 34 :: (s.data.toList.flatMap escL ++ 34 :: r) := by rw [hS]; simp
  obtain ⟨hp, hc, hr⟩ := rest_cons hS'
  have hb := rest_byte hS'
  obtain ⟨q, h1, h2⟩ := str_app s.data.toList (acc := []) hr
  refine ⟨{ S with pl := q, kd := 4, tx := s }, ?_, ⟨rfl, m1, rfl, m3⟩, h2⟩
  rw [advS_str hp (by rw [hb]; rfl) (by rw [hb]; rfl) hb, h1]
  show (if 300 < ([] ++ s.data.toList).length then _ else _) = _
  have hl : s.data.toList.length ≤ 300 := by rw [← bs_len]; exact hs
  rw [if_neg (by simpa using hl)]
  simp
end Go.Proofs.YtndgajlidckcdaaGreatDoor

namespace Go.Proofs.YtndgajlidckcdaaGreatDoor
open Go.RowKit
set_option linter.unusedVariables false

/-- Bytes that are these tokens, whatever stands behind them; where no byte of a name does. -/
def LF (b : List UInt8) (ts : List To) : Prop := ∀ r us, Toks r us → Toks (b ++ r) (ts ++ us)
def LN (b : List UInt8) (ts : List To) : Prop := ∀ r us, nbz r → Toks r us → Toks (b ++ r) (ts ++ us)
theorem LF.n {b : List UInt8} {ts : List To} (h : LF b ts) : LN b ts := fun r us _ => h r us
theorem nbz_cons {c : UInt8} (h : nb c.toNat = false) (r : List UInt8) : nbz (c :: r) := fun d r' e => by cases e; exact h
theorem LF.app {a b : List UInt8} {s t : List To} (h : LF a s) (k : LF b t) : LF (a ++ b) (s ++ t) := fun r us hr => by
  rw [List.append_assoc, List.append_assoc]; exact h _ _ (k r us hr)
theorem LF.appN {a b : List UInt8} {s t : List To} (h : LF a s) (k : LN b t) : LN (a ++ b) (s ++ t) := fun r us hz hr => by
  rw [List.append_assoc, List.append_assoc]; exact h _ _ (k r us hz hr)
theorem LN.app {a b : List UInt8} {c : UInt8} {s t : List To} (h : LN a s) (hc : nb c.toNat = false) (k : LF (c :: b) t) : LF (a ++ (c :: b)) (s ++ t) := fun r us hr => by
  rw [List.append_assoc, List.append_assoc]; exact h _ _ (nbz_cons hc _) (k r us hr)
theorem LN.appN {a b : List UInt8} {c : UInt8} {s t : List To} (h : LN a s) (hc : nb c.toNat = false) (k : LN (c :: b) t) : LN (a ++ (c :: b)) (s ++ t) := fun r us hz hr => by
  rw [List.append_assoc, List.append_assoc]; exact h _ _ (nbz_cons hc _) (k r us hz hr)
theorem lf_nil : LF [] [] := fun _ _ h => h
theorem lf_sp : LF [32] [] := fun _ _ h => h.blank
theorem lf_nl : LF [10] [] := fun _ _ h => h.feed
theorem lf_one {c : UInt8} (hc : c ∈ lones) : LF [c] [sg [c]] := fun _ _ h => h.lone hc
theorem lf_eq : LF [32, 61, 32] [sg [61]] := fun _ _ h => (Toks.equal (by decide) h.blank).blank
theorem isW_eq (l : List UInt8) : isW ⟨l.toArray⟩ = wordBytes.any fun x => x == l := by
  unfold isW onList wordTexts
  rw [List.any_map]
  congr 1
  funext x
  simp only [Function.comp, ByteArray.toList_eq]
theorem ln_word {c : UInt8} {b : List UInt8} (h : (lt c.toNat && (c :: b).all (fun x => nb x.toNat) && wordBytes.any fun x => x == (c :: b)) = true) : LN (c :: b) [sg (c :: b)] := fun r us hz hr => by
  simp only [Bool.and_eq_true] at h
  exact Toks.word h.1.1 (fun x hx => List.all_eq_true.1 h.1.2 x hx) (by rw [isW_eq]; exact h.2) hz hr
theorem nm_list {s : ByteArray} (h : NmOk s) : ∃ c b, s.data.toList = c :: b ∧ s = ⟨(c :: b).toArray⟩ ∧ lt c.toNat = true ∧ (∀ x ∈ c :: b, nb x.toNat = true) ∧ (c :: b).length ≤ 16 := by
  cases hs : s.data.toList with
  | nil => have := h.pos; rw [bs_len, hs] at this; exact absurd this (by decide)
  | cons c b =>
    have e : s = ⟨(c :: b).toArray⟩ := by apply ByteArray.ext; rw [← hs]
    have hr : rest s 0 = c :: b := by unfold rest; rw [hs]; rfl
    refine ⟨c, b, rfl, e, by rw [← rest_byte hr]; exact h.hd, fun x hx => ?_, by rw [← hs, ← bs_len]; exact h.le⟩
    rw [← hs] at hx
    obtain ⟨i, hi, rfl⟩ := List.mem_iff_getElem.1 hx
    have := h.all i (by rw [bs_len]; exact hi)
    rw [← byteAt_eq (by rw [bs_len]; exact hi)] at this
    exact this
theorem ln_name {s : ByteArray} (h : NmOk s) : LN s.data.toList [nmT s] := fun r us hz hr => by
  obtain ⟨c, b, e1, e2, h1, h2, h3⟩ := nm_list h
  rw [e1]
  have := Toks.name h1 h2 (by rw [← e2]; exact h.word) h3 hz hr
  rw [← e2] at this
  exact this
theorem lf_in : ∀ d, LF (xIn d).data.toList []
  | 0 => lf_nil
  | d + 1 => fun r us h => by
    have e : (xIn (d + 1)).data.toList ++ r = 32 :: 32 :: ((xIn d).data.toList ++ r) := by simp [xIn, Lib.repeatL]
    rw [e]
    exact (lf_in d r us h).blank.blank
theorem ln_int {n : Int} (h : ∃ u : Nat, u ≤ 9223372036854775808 ∧ n = wrap64 u) : LN (xInt n).data.toList [nuT n] := fun r us hz hr => by
  obtain ⟨u, hu, rfl⟩ := h
  have e : (xInt (wrap64 u)).data.toList = Lib.decDigits u := by
    unfold xInt
    have : (wrap64 (u : Int) % 18446744073709551616).toNat = u := by unfold wrap64; omega
    rw [this]
  rw [e]
  exact Toks.num hu hz hr
theorem lf_str {s : ByteArray} (h : s.size ≤ 300) : LF (xStr s).data.toList [stT s] := fun r us hr => Toks.str h hr
theorem bl_app (a b : ByteArray) : (a ++ b).data.toList = a.data.toList ++ b.data.toList := by rw [ByteArray.data_append, Array.toList_append]

/-- Values and statements as tokens. -/
structure Wt where
  B : Nat → Tree → List To
  S : Nat → Tree → List To
def kVal (K : Wt) (d l : Nat) (t : Tree) : List To := if strengthP t.kind < l then [sg [40]] ++ K.B d t ++ [sg [41]] else K.B d t
def kTail (K : Wt) (d : Nat) : List Tree → List To
  | [] => []
  | t :: l => [sg [44]] ++ kVal K d 1 t ++ kTail K d l
def kVals (K : Wt) (d : Nat) : List Tree → List To
  | [] => []
  | t :: l => kVal K d 1 t ++ kTail K d l
def kArgs (K : Wt) (d : Nat) (l : List Tree) : List To := [sg [40]] ++ kVals K d l ++ [sg [41]]
def kLines (K : Wt) (d : Nat) (l : List Tree) : List To := l.flatMap (K.S d)
def kBraces (K : Wt) (d : Nat) (l : List Tree) : List To := [sg [123]] ++ kLines K (d + 1) l ++ [sg [125]]
def kFun (K : Wt) (d : Nat) (t : Tree) : List To := [sg [40]] ++ kVals K d (kid t 0).kids ++ [sg [41]] ++ kBraces K d (kid t 1).kids
def kGuard (K : Wt) (d : Nat) (t : Tree) : List To := [sg [40]] ++ kVal K d 1 (kid t 0) ++ [sg [41]] ++ kBraces K d (kid t 1).kids
def fnFirst (R : Wr) (d : Nat) (t : Tree) : Bool := decide (d = 0) && Lib.hasPrefix (xVal R d 1 (kid t 0)).data.toList [102, 110, 40]
def kFirst (R : Wr) (K : Wt) (d : Nat) (t : Tree) : List To := if fnFirst R d t = true then [sg [40]] ++ kVal K d 1 (kid t 0) ++ [sg [41]] else kVal K d 1 (kid t 0)
def kUnder (t : Tree) : List To := if t.under = noText then [] else [sg [60], nmT t.under]
def kIf (K : Wt) (d : Nat) (t : Tree) : List To := if 2 < t.kids.length then [sg [105, 102]] ++ kGuard K d t ++ ([sg [101, 108, 115, 101]] ++ kBraces K d (kid t 2).kids) else [sg [105, 102]] ++ kGuard K d t
def kRet (K : Wt) (d : Nat) (t : Tree) : List To := if t.kids.length = 0 then [sg [114, 101, 116, 117, 114, 110], sg [59]] else [sg [114, 101, 116, 117, 114, 110]] ++ kVal K d 1 (kid t 0) ++ [sg [59]]
def kSimple (K : Wt) (d : Nat) (t : Tree) : List To :=
  if t.kind = 18 then [nuT t.n] else if t.kind = 19 then [stT t.text] else if t.kind = 20 then [sg [116, 114, 117, 101]] else if t.kind = 21 then [sg [102, 97, 108, 115, 101]] else if t.kind = 22 then [sg [110, 105, 108]] else if t.kind = 23 then [sg [116, 104, 105, 115]]
  else if t.kind = 25 then [sg [110, 101, 119], nmT t.text] ++ kArgs K d t.kids else if t.kind = 26 then [sg [115, 117, 112, 101, 114], sg [46], nmT t.text] ++ kArgs K d t.kids else if t.kind = 27 then [sg [91]] ++ kVals K d t.kids ++ [sg [93]] else if t.kind = 28 then [sg [102, 110]] ++ kFun K d t else if t.kind = 29 then [sg [105, 110, 112, 117, 116], sg [40], sg [41]] else if t.kind = 30 then [sg [108, 101, 110], sg [40]] ++ kVal K d 1 (kid t 0) ++ [sg [41]] else [nmT t.text]
def kCalled (K : Wt) (d : Nat) (t : Tree) : List To := if (kid t 0).kind = 42 then [sg [40]] ++ K.B d (kid t 0) ++ [sg [41]] else kVal K d 8 (kid t 0)
def sgT (s : ByteArray) : To := ⟨1, s, noText, 0⟩
def kBare (K : Wt) (d : Nat) (t : Tree) : List To :=
  if (signOfP t.kind).2 = true then kVal K d (signOfP t.kind).1.2.2 (kid t 0) ++ [sgT (signOfP t.kind).1.1] ++ kVal K d ((signOfP t.kind).1.2.2 + 1) (kid t 1)
  else if t.kind = 40 then [sg [45]] ++ kVal K d 7 (kid t 0) else if t.kind = 41 then [sg [33]] ++ kVal K d 7 (kid t 0) else if t.kind = 42 then kVal K d 8 (kid t 0) ++ [sg [46], nmT t.text] else if t.kind = 43 then kVal K d 8 (kid t 0) ++ [sg [46], nmT t.text] ++ kArgs K d (t.kids.drop 1) else if t.kind = 44 then kVal K d 8 (kid t 0) ++ [sg [91]] ++ kVal K d 1 (kid t 1) ++ [sg [93]] else if t.kind = 45 then kCalled K d t ++ kArgs K d (t.kids.drop 1) else kSimple K d t
def kCatch (K : Wt) (d : Nat) (t : Tree) : List To := [sg [99, 97, 116, 99, 104], sg [40], nmT t.text, sg [41]] ++ kBraces K d (kid t 0).kids
def kStm (R : Wr) (K : Wt) (d : Nat) (t : Tree) : List To :=
  if t.kind = 2 then [sg [99, 108, 97, 115, 115], nmT t.text] ++ kUnder t ++ kBraces K d t.kids else if t.kind = 3 then [sg [102, 105, 101, 108, 100], nmT t.text, sg [59]] else if t.kind = 4 then [nmT t.text] ++ kFun K d t else if t.kind = 5 then [sg [102, 110], nmT t.text] ++ kFun K d t else if t.kind = 8 then [sg [118, 97, 114], nmT t.text, sg [61]] ++ kVal K d 1 (kid t 0) ++ [sg [59]] else if t.kind = 9 then kFirst R K d t ++ [sg [61]] ++ kVal K d 1 (kid t 1) ++ [sg [59]] else if t.kind = 10 then kIf K d t
  else if t.kind = 11 then [sg [119, 104, 105, 108, 101]] ++ kGuard K d t else if t.kind = 12 then kRet K d t else if t.kind = 13 then [sg [116, 104, 114, 111, 119]] ++ kVal K d 1 (kid t 0) ++ [sg [59]] else if t.kind = 14 then [sg [116, 114, 121]] ++ kBraces K d (kid t 0).kids ++ kCatch K d (kid t 1) else if t.kind = 15 then kCatch K d t else if t.kind = 16 then [sg [112, 114, 105, 110, 116], sg [40]] ++ kVal K d 1 (kid t 0) ++ [sg [41], sg [59]] else kFirst R K d t ++ [sg [59]]
def kN : Nat → Wt
  | 0 => ⟨fun _ _ => [], fun _ _ => []⟩
  | f + 1 => ⟨kBare (kN f), kStm (xN f) (kN f)⟩
def kText (t : Tree) : List To := kLines (kN 1200) 0 t.kids

theorem manyKid {t k : Tree} {f : Nat} (hm : t.many ≤ f + 1) (hk : k ∈ t.kids) : k.many ≤ f := by
  rw [many_eq] at hm
  have : ∀ l : List Tree, k ∈ l → k.many ≤ (l.map Tree.many).sum := by
    intro l
    induction l with
    | nil => intro h; cases h
    | cons a l ih =>
      intro h
      rw [List.map_cons, List.sum_cons]
      rcases List.mem_cons.1 h with rfl | h
      · omega
      · have := ih h; omega
  have := this _ hk
  omega
end Go.Proofs.YtndgajlidckcdaaGreatDoor

namespace Go.Proofs.YtndgajlidckcdaaGreatDoor
open Go.RowKit
set_option linter.unusedVariables false

theorem LN.f {a b : List UInt8} {s t : List To} (h : LN a s) (k : LF b t) (hb : ∃ c b', b = c :: b' ∧ nb c.toNat = false) : LF (a ++ b) (s ++ t) := by
  obtain ⟨c, b', rfl, hc⟩ := hb
  exact h.app hc k
theorem LN.g {a b : List UInt8} {s t : List To} (h : LN a s) (k : LN b t) (hb : ∃ c b', b = c :: b' ∧ nb c.toNat = false) : LN (a ++ b) (s ++ t) := by
  obtain ⟨c, b', rfl, hc⟩ := hb
  exact h.appN hc k
theorem lf_wsp {c : UInt8} {b : List UInt8} (h : (lt c.toNat && (c :: b).all (fun x => nb x.toNat) && wordBytes.any fun x => x == (c :: b)) = true) : LF (c :: b ++ [32]) [sg (c :: b)] := (ln_word h).f lf_sp ⟨_, _, rfl, by decide⟩
theorem lf_wop {c e : UInt8} {b : List UInt8} (h : (lt c.toNat && (c :: b).all (fun x => nb x.toNat) && wordBytes.any fun x => x == (c :: b)) = true) (he : e ∈ lones) (hn : nb e.toNat = false) : LF (c :: b ++ [e]) [sg (c :: b), sg [e]] := (ln_word h).f (lf_one he) ⟨_, _, rfl, hn⟩
/-- What the writer within is held against. -/
structure LxR (R : Wr) (K : Wt) (f : Nat) : Prop where
  b : ∀ d t, Wx t → vK t → t.many ≤ f → LN (R.B d t).data.toList (K.B d t)
  s : ∀ d t, Wx t → (sK t ∨ t.kind = 2 ∨ t.kind = 3 ∨ t.kind = 4 ∨ t.kind = 5) → t.many ≤ f → LF (R.S d t).data.toList (K.S d t)
def VS (f : Nat) (l : List Tree) : Prop := ∀ t ∈ l, Wx t ∧ vK t ∧ t.many ≤ f
theorem body_ok {t : Tree} {f F : Nat} (hx : Wx t) (hk : t.kind = 7) (hm : t.many ≤ F) (hF : F ≤ f + 1) : ∀ k ∈ t.kids, Wx k ∧ (sK k ∨ k.kind = 2 ∨ k.kind = 3 ∨ k.kind = 4 ∨ k.kind = 5) ∧ k.many ≤ f := fun k hk' => by
  have h1 := hx.here.2
  rw [hk] at h1
  exact ⟨hx.kid hk', Or.inl (h1 k hk'), manyKid (by omega) hk'⟩
theorem l_par {R : Wr} {K : Wt} {f : Nat} (h : LxR R K f) {d : Nat} {t : Tree} (hx : Wx t) (hv : vK t) (hm : t.many ≤ f) : LF ((⟨#[40]⟩ ++ R.B d t) ++ ⟨#[41]⟩ : ByteArray).data.toList ([sg [40]] ++ K.B d t ++ [sg [41]]) := by
  rw [bl_app, bl_app]
  exact ((lf_one (c := 40) (by decide)).appN (h.b d t hx hv hm)).f (lf_one (c := 41) (by decide)) ⟨_, _, rfl, by decide⟩
theorem l_val {R : Wr} {K : Wt} {f : Nat} (h : LxR R K f) {d l : Nat} {t : Tree} (hx : Wx t) (hv : vK t) (hm : t.many ≤ f) : LN (xVal R d l t).data.toList (kVal K d l t) := by
  unfold xVal kVal
  split
  · exact (l_par h hx hv hm).n
  · exact h.b d t hx hv hm
theorem l_tail {R : Wr} {K : Wt} {f : Nat} (h : LxR R K f) {d : Nat} : ∀ (l : List Tree), VS f l → ∀ r us, nbz r → Toks r us → Toks (Lib.joinTail [44, 32] (l.map fun t => (xVal R d 1 t).data.toList) ++ r) (kTail K d l ++ us) ∧ nbz (Lib.joinTail [44, 32] (l.map fun t => (xVal R d 1 t).data.toList) ++ r)
  | [], _, r, us, hz, hr => ⟨hr, hz⟩
  | t :: l, hl, r, us, hz, hr => by
    have ht := hl t (List.mem_cons_self ..)
    obtain ⟨i1, i2⟩ := l_tail h l (fun x hx => hl x (List.mem_cons_of_mem _ hx)) r us hz hr
    have e : Lib.joinTail [44, 32] ((t :: l).map fun t => (xVal R d 1 t).data.toList) ++ r = 44 :: 32 :: ((xVal R d 1 t).data.toList ++ (Lib.joinTail [44, 32] (l.map fun t => (xVal R d 1 t).data.toList) ++ r)) := by
      simp [Lib.joinTail]
    rw [e]
    refine ⟨?_, nbz_cons (by decide) _⟩
    have := (l_val h ht.1 ht.2.1 ht.2.2 (d := d) (l := 1) _ _ i2 i1).blank.lone (c := 44) (by decide)
    simpa [kTail] using this
theorem l_vals {R : Wr} {K : Wt} {f : Nat} (h : LxR R K f) {d : Nat} {l : List Tree} (hl : VS f l) : LN (xVals R d l).data.toList (kVals K d l) := by
  cases l with
  | nil => exact lf_nil.n
  | cons t l =>
    intro r us hz hr
    have ht := hl t (List.mem_cons_self ..)
    obtain ⟨i1, i2⟩ := l_tail h l (fun x hx => hl x (List.mem_cons_of_mem _ hx)) r us hz hr (d := d)
    show Toks (Lib.join ((t :: l).map fun t => (xVal R d 1 t).data.toList) [44, 32] ++ r) (kVal K d 1 t ++ kTail K d l ++ us)
    rw [List.map_cons, Lib.join_cons, List.append_assoc, List.append_assoc]
    exact l_val h ht.1 ht.2.1 ht.2.2 _ _ i2 i1
theorem l_args {R : Wr} {K : Wt} {f : Nat} (h : LxR R K f) {d : Nat} {l : List Tree} (hl : VS f l) : LF (xArgs R d l).data.toList (kArgs K d l) := by
  unfold xArgs kArgs
  rw [bl_app, bl_app]
  exact ((lf_one (c := 40) (by decide)).appN (l_vals h hl)).f (lf_one (c := 41) (by decide)) ⟨_, _, rfl, by decide⟩
theorem l_lines {R : Wr} {K : Wt} {f : Nat} (h : LxR R K f) {d : Nat} : ∀ {l : List Tree}, (∀ t ∈ l, Wx t ∧ (sK t ∨ t.kind = 2 ∨ t.kind = 3 ∨ t.kind = 4 ∨ t.kind = 5) ∧ t.many ≤ f) → LF (xLines R d l).data.toList (kLines K d l)
  | [], _ => lf_nil
  | t :: l, hl => by
    have ht := hl t (List.mem_cons_self ..)
    have e : (xLines R d (t :: l)).data.toList = (xLine R d t).data.toList ++ (xLines R d l).data.toList := by simp [xLines]
    rw [e]
    unfold xLine
    rw [bl_app, bl_app]
    have e2 : kLines K d (t :: l) = [] ++ K.S d t ++ [] ++ kLines K d l := by simp [kLines]
    rw [e2]
    exact (((lf_in d).app (h.s d t ht.1 ht.2.1 ht.2.2)).app lf_nl).app (l_lines h fun x hx => hl x (List.mem_cons_of_mem _ hx))
theorem l_braces {R : Wr} {K : Wt} {f : Nat} (h : LxR R K f) {d : Nat} {l : List Tree} (hl : ∀ t ∈ l, Wx t ∧ (sK t ∨ t.kind = 2 ∨ t.kind = 3 ∨ t.kind = 4 ∨ t.kind = 5) ∧ t.many ≤ f) : LF (xBraces R d l).data.toList (kBraces K d l) := by
  unfold xBraces
  rw [bl_app, bl_app, bl_app]
  have e : kBraces K d l = [sg [123]] ++ [] ++ kLines K (d + 1) l ++ [] ++ [sg [125]] := by simp [kBraces]
  rw [e]
  exact (((((lf_one (c := 123) (by decide)).app lf_nl).app (l_lines h hl)).app (lf_in d)).app (lf_one (c := 125) (by decide)))
theorem l_fun {R : Wr} {K : Wt} {f : Nat} (h : LxR R K f) {d : Nat} {t p b : Tree} (hx : Wx t) (e : t.kids = [p, b]) (hp : p.kind = 6) (hb : b.kind = 7) (hm : t.many ≤ f + 1) : LF (xFun R d t).data.toList (kFun K d t) := by
  have e0 : kid t 0 = p := by unfold kid; rw [e]; rfl
  have e1 : kid t 1 = b := by unfold kid; rw [e]; rfl
  have mp : p.many ≤ f := manyKid hm (by rw [e]; simp)
  have mb : b.many ≤ f := manyKid hm (by rw [e]; simp)
  have hp' : Wx p := hx.kid (by rw [e]; simp)
  have hb' : Wx b := hx.kid (by rw [e]; simp)
  have h1 := hp'.here.2
  rw [hp] at h1
  have hps : VS f p.kids := fun k hk => ⟨hp'.kid hk, by have := h1.2 k hk; unfold vK; omega, manyKid (by omega) hk⟩
  unfold xFun kFun
  rw [e0, e1, bl_app, bl_app, bl_app]
  exact (((lf_one (c := 40) (by decide)).appN (l_vals h hps)).f ((lf_one (c := 41) (by decide)).app lf_sp) ⟨_, _, rfl, by decide⟩).app (l_braces h (body_ok hb' hb mb (by omega)))
theorem l_guard {R : Wr} {K : Wt} {f : Nat} (h : LxR R K f) {d : Nat} {t c b : Tree} {x : List Tree} (hx : Wx t) (e : t.kids = c :: b :: x) (hc : vK c) (hb : b.kind = 7) (hm : t.many ≤ f + 1) : LF (xGuard R d t).data.toList (kGuard K d t) := by
  have e0 : kid t 0 = c := by unfold kid; rw [e]; rfl
  have e1 : kid t 1 = b := by unfold kid; rw [e]; rfl
  have mc : c.many ≤ f := manyKid hm (by rw [e]; simp)
  have mb : b.many ≤ f := manyKid hm (by rw [e]; simp)
  have hc' : Wx c := hx.kid (by rw [e]; simp)
  have hb' : Wx b := hx.kid (by rw [e]; simp)
  unfold xGuard kGuard
  rw [e0, e1, bl_app, bl_app, bl_app]
  exact (((lf_one (c := 40) (by decide)).appN (l_val h hc' hc mc)).f ((lf_one (c := 41) (by decide)).app lf_sp) ⟨_, _, rfl, by decide⟩).app (l_braces h (body_ok hb' hb mb (by omega)))
theorem l_first {R : Wr} {K : Wt} {f : Nat} (h : LxR R K f) {d : Nat} {t c : Tree} (e0 : kid t 0 = c) (hc' : Wx c) (hc : vK c) (mc : c.many ≤ f) : LN (xFirst R d t).data.toList (kFirst R K d t) := by
  unfold xFirst kFirst fnFirst
  rw [e0]
  split
  · rw [bl_app, bl_app]
    exact (((lf_one (c := 40) (by decide)).appN (l_val h hc' hc mc)).f (lf_one (c := 41) (by decide)) ⟨_, _, rfl, by decide⟩).n
  · exact l_val h hc' hc mc
theorem l_catch {R : Wr} {K : Wt} {f : Nat} (h : LxR R K f) {d : Nat} {t b : Tree} (hx : Wx t) (hk : t.kind = 15) (e : t.kids = [b]) (hb : b.kind = 7) (hm : t.many ≤ f + 1) : LF (xCatch R d t).data.toList (kCatch K d t) := by
  have e0 : kid t 0 = b := by unfold kid; rw [e]; rfl
  have mb : b.many ≤ f := manyKid hm (by rw [e]; simp)
  have hb' : Wx b := hx.kid (by rw [e]; simp)
  have hn := hx.here.1.nm (by rw [hk]; rfl)
  unfold xCatch kCatch
  rw [e0, bl_app, bl_app, bl_app]
  have e2 : ([sg [99, 97, 116, 99, 104], sg [40], nmT t.text, sg [41]] : List To) = [sg [99, 97, 116, 99, 104]] ++ [sg [40]] ++ [nmT t.text] ++ ([sg [41]] ++ []) := rfl
  rw [e2]
  exact ((((lf_wsp (c := 99) (b := [97, 116, 99, 104]) (by decide)).app (lf_one (c := 40) (by decide))).appN (ln_name hn)).f ((lf_one (c := 41) (by decide)).app lf_sp) ⟨_, _, rfl, by decide⟩).app (l_braces h (body_ok hb' hb mb (by omega)))
end Go.Proofs.YtndgajlidckcdaaGreatDoor

namespace Go.Proofs.YtndgajlidckcdaaGreatDoor
open Go.RowKit
set_option linter.unusedVariables false

theorem ki0 {t a : Tree} {l : List Tree} (e : t.kids = a :: l) : kid t 0 = a := by unfold kid; rw [e]; rfl
theorem ki1 {t a b : Tree} {l : List Tree} (e : t.kids = a :: b :: l) : kid t 1 = b := by unfold kid; rw [e]; rfl
theorem ki2 {t a b c : Tree} {l : List Tree} (e : t.kids = a :: b :: c :: l) : kid t 2 = c := by unfold kid; rw [e]; rfl
theorem pairSg {k : Nat} (h1 : 31 ≤ k) (h2 : k ≤ 39) : (signOfP k).2 = true ∧ cls k = 4 ∧ LF ([32] ++ (signOfP k).1.1.data.toList ++ [32]) [sgT (signOfP k).1.1] := by
  rcases (by omega : k = 31 ∨ k = 32 ∨ k = 33 ∨ k = 34 ∨ k = 35 ∨ k = 36 ∨ k = 37 ∨ k = 38 ∨ k = 39) with rfl | rfl | rfl | rfl | rfl | rfl | rfl | rfl | rfl
  · exact ⟨rfl, rfl, fun r us h => (Toks.twin (c := 124) (by decide) h.blank).blank⟩
  · exact ⟨rfl, rfl, fun r us h => (Toks.twin (c := 38) (by decide) h.blank).blank⟩
  · exact ⟨rfl, rfl, fun r us h => (Toks.twin (c := 61) (by decide) h.blank).blank⟩
  · exact ⟨rfl, rfl, fun r us h => (h.blank.lone (c := 60) (by decide)).blank⟩
  · exact ⟨rfl, rfl, fun r us h => (h.blank.lone (c := 43) (by decide)).blank⟩
  · exact ⟨rfl, rfl, fun r us h => (h.blank.lone (c := 45) (by decide)).blank⟩
  · exact ⟨rfl, rfl, fun r us h => (h.blank.lone (c := 42) (by decide)).blank⟩
  · exact ⟨rfl, rfl, fun r us h => (h.blank.lone (c := 47) (by decide)).blank⟩
  · exact ⟨rfl, rfl, fun r us h => (h.blank.lone (c := 37) (by decide)).blank⟩
theorem args_vs {f : Nat} {t a : Tree} {l : List Tree} (hx : Wx t) (hm : t.many ≤ f + 1) (ek : t.kids = a :: l) (hl : ∀ k ∈ l, vK k) : VS f (t.kids.drop 1) := fun k hk => by
  have hk' := List.mem_of_mem_drop hk
  rw [ek] at hk
  exact ⟨hx.kid hk', hl k hk, manyKid hm hk'⟩
theorem lx_leaf {R : Wr} {K : Wt} {d : Nat} {t : Tree} (hx : Wx t) (h1 : t.kind = 18 ∨ t.kind = 19 ∨ t.kind = 20 ∨ t.kind = 21 ∨ t.kind = 22 ∨ t.kind = 23 ∨ t.kind = 24 ∨ t.kind = 29) : LN (xBare R d t).data.toList (kBare K d t) := by
  have hT := hx.here.1
  rcases h1 with e | e | e | e | e | e | e | e
  · rw [show xBare R d t = xInt t.n by rw [xBare, xSimple, e]; rfl, show kBare K d t = [nuT t.n] by rw [kBare, kSimple, e]; rfl]
    exact ln_int (hT.nu e)
  · rw [show xBare R d t = xStr t.text by rw [xBare, xSimple, e]; rfl, show kBare K d t = [stT t.text] by rw [kBare, kSimple, e]; rfl]
    exact (lf_str (hT.st e)).n
  · rw [show xBare R d t = ⟨#[116, 114, 117, 101]⟩ by rw [xBare, xSimple, e]; rfl, show kBare K d t = [sg [116, 114, 117, 101]] by rw [kBare, kSimple, e]; rfl]
    exact ln_word (c := 116) (b := [114, 117, 101]) (by decide)
  · rw [show xBare R d t = ⟨#[102, 97, 108, 115, 101]⟩ by rw [xBare, xSimple, e]; rfl, show kBare K d t = [sg [102, 97, 108, 115, 101]] by rw [kBare, kSimple, e]; rfl]
    exact ln_word (c := 102) (b := [97, 108, 115, 101]) (by decide)
  · rw [show xBare R d t = ⟨#[110, 105, 108]⟩ by rw [xBare, xSimple, e]; rfl, show kBare K d t = [sg [110, 105, 108]] by rw [kBare, kSimple, e]; rfl]
    exact ln_word (c := 110) (b := [105, 108]) (by decide)
  · rw [show xBare R d t = ⟨#[116, 104, 105, 115]⟩ by rw [xBare, xSimple, e]; rfl, show kBare K d t = [sg [116, 104, 105, 115]] by rw [kBare, kSimple, e]; rfl]
    exact ln_word (c := 116) (b := [104, 105, 115]) (by decide)
  · rw [show xBare R d t = t.text by rw [xBare, xSimple, e]; rfl, show kBare K d t = [nmT t.text] by rw [kBare, kSimple, e]; rfl]
    exact ln_name (hT.nm (by rw [e]; rfl))
  · rw [show xBare R d t = ⟨#[105, 110, 112, 117, 116, 40, 41]⟩ by rw [xBare, xSimple, e]; rfl, show kBare K d t = [sg [105, 110, 112, 117, 116], sg [40]] ++ [sg [41]] by rw [kBare, kSimple, e]; rfl]
    exact ((lf_wop (c := 105) (b := [110, 112, 117, 116]) (e := 40) (by decide) (by decide) (by decide)).app (lf_one (c := 41) (by decide))).n
theorem lx_pair {R : Wr} {K : Wt} {f : Nat} (h : LxR R K f) {d : Nat} {t : Tree} (hx : Wx t) (hm : t.many ≤ f + 1) (h1 : 31 ≤ t.kind) (h2 : t.kind ≤ 39) : LN (xBare R d t).data.toList (kBare K d t) := by
  obtain ⟨e, hc, hs⟩ := pairSg h1 h2
  have hh := hx.here.2
  rw [hc] at hh
  obtain ⟨a, b, ek, va, vb⟩ := hh
  have xa : Wx a := hx.kid (by rw [ek]; simp)
  have xb : Wx b := hx.kid (by rw [ek]; simp)
  have ma : a.many ≤ f := manyKid hm (by rw [ek]; simp)
  have mb : b.many ≤ f := manyKid hm (by rw [ek]; simp)
  rw [xBare, if_pos e, kBare, if_pos e, ki0 ek, ki1 ek]
  simp only [bl_app]
  have e2 : ∀ x y z : List UInt8, (((x ++ (⟨#[32]⟩ : ByteArray).data.toList) ++ y) ++ (⟨#[32]⟩ : ByteArray).data.toList) ++ z = (x ++ ([32] ++ y ++ [32])) ++ z := fun x y z => by simp
  rw [e2]
  exact ((l_val h xa va ma).f hs ⟨32, _, rfl, by decide⟩).appN (l_val h xb vb mb)
theorem lx_one {R : Wr} {K : Wt} {f : Nat} (h : LxR R K f) {d : Nat} {t : Tree} (hx : Wx t) (hm : t.many ≤ f + 1) (h1 : t.kind = 40 ∨ t.kind = 41 ∨ t.kind = 42 ∨ t.kind = 30) : LN (xBare R d t).data.toList (kBare K d t) := by
  have hh := hx.here.2
  have hn := hx.here.1.nm
  have hc : cls t.kind = 3 := by rcases h1 with e | e | e | e <;> rw [e] <;> rfl
  rw [hc] at hh
  obtain ⟨a, ek, va⟩ := hh
  have xa : Wx a := hx.kid (by rw [ek]; simp)
  have ma : a.many ≤ f := manyKid hm (by rw [ek]; simp)
  rcases h1 with e | e | e | e
  · have e1 : xBare R d t = ⟨#[45]⟩ ++ xVal R d 7 (kid t 0) := by rw [xBare, e]; rfl
    have e2 : kBare K d t = [sg [45]] ++ kVal K d 7 (kid t 0) := by rw [kBare, e]; rfl
    rw [e1, e2, ki0 ek, bl_app]
    exact (lf_one (c := 45) (by decide)).appN (l_val h xa va ma)
  · have e1 : xBare R d t = ⟨#[33]⟩ ++ xVal R d 7 (kid t 0) := by rw [xBare, e]; rfl
    have e2 : kBare K d t = [sg [33]] ++ kVal K d 7 (kid t 0) := by rw [kBare, e]; rfl
    rw [e1, e2, ki0 ek, bl_app]
    exact (lf_one (c := 33) (by decide)).appN (l_val h xa va ma)
  · have e1 : xBare R d t = (xVal R d 8 (kid t 0) ++ ⟨#[46]⟩) ++ t.text := by rw [xBare, e]; rfl
    have e2 : kBare K d t = kVal K d 8 (kid t 0) ++ [sg [46]] ++ [nmT t.text] := by rw [kBare, e]; simp [signOfP, signRows]
    rw [e1, e2, ki0 ek, bl_app, bl_app]
    exact ((l_val h xa va ma).f (lf_one (c := 46) (by decide)) ⟨_, _, rfl, by decide⟩).appN (ln_name (hn (by rw [e]; rfl)))
  · have e1 : xBare R d t = (⟨#[108, 101, 110, 40]⟩ ++ xVal R d 1 (kid t 0)) ++ ⟨#[41]⟩ := by rw [xBare, xSimple, e]; rfl
    have e2 : kBare K d t = [sg [108, 101, 110], sg [40]] ++ kVal K d 1 (kid t 0) ++ [sg [41]] := by rw [kBare, kSimple, e]; rfl
    rw [e1, e2, ki0 ek, bl_app, bl_app]
    exact (((lf_wop (c := 108) (b := [101, 110]) (e := 40) (by decide) (by decide) (by decide)).appN (l_val h xa va ma)).f (lf_one (c := 41) (by decide)) ⟨_, _, rfl, by decide⟩).n
theorem lx_more {R : Wr} {K : Wt} {f : Nat} (h : LxR R K f) {d : Nat} {t : Tree} (hx : Wx t) (hm : t.many ≤ f + 1) (h1 : t.kind = 43 ∨ t.kind = 45) : LN (xBare R d t).data.toList (kBare K d t) := by
  have hh := hx.here.2
  have hn := hx.here.1.nm
  have hc : cls t.kind = 5 := by rcases h1 with e | e <;> rw [e] <;> rfl
  rw [hc] at hh
  obtain ⟨a, l, ek, va, hl, vl⟩ := hh
  have xa : Wx a := hx.kid (by rw [ek]; simp)
  have ma : a.many ≤ f := manyKid hm (by rw [ek]; simp)
  have hvs := args_vs hx hm ek vl
  rcases h1 with e | e
  · have e1 : xBare R d t = ((xVal R d 8 (kid t 0) ++ ⟨#[46]⟩) ++ t.text) ++ xArgs R d (t.kids.drop 1) := by rw [xBare, e]; rfl
    have e2 : kBare K d t = kVal K d 8 (kid t 0) ++ [sg [46]] ++ [nmT t.text] ++ kArgs K d (t.kids.drop 1) := by rw [kBare, e]; simp [signOfP, signRows]
    rw [e1, e2, ki0 ek, bl_app, bl_app, bl_app]
    exact ((((l_val h xa va ma).f (lf_one (c := 46) (by decide)) ⟨_, _, rfl, by decide⟩).appN (ln_name (hn (by rw [e]; rfl)))).f (l_args h hvs) ⟨40, (xVals R d (t.kids.drop 1)).data.toList ++ [41], by unfold xArgs; rw [bl_app, bl_app]; rfl, by decide⟩).n
  · have e1 : xBare R d t = xCalled R d t ++ xArgs R d (t.kids.drop 1) := by rw [xBare, e]; rfl
    have e2 : kBare K d t = kCalled K d t ++ kArgs K d (t.kids.drop 1) := by rw [kBare, e]; rfl
    have hcl : LN (xCalled R d t).data.toList (kCalled K d t) := by
      unfold xCalled kCalled
      rw [ki0 ek]
      split
      · exact (l_par h xa va ma).n
      · exact l_val h xa va ma
    rw [e1, e2, bl_app]
    exact (hcl.f (l_args h hvs) ⟨40, (xVals R d (t.kids.drop 1)).data.toList ++ [41], by unfold xArgs; rw [bl_app, bl_app]; rfl, by decide⟩).n
theorem lx_elem {R : Wr} {K : Wt} {f : Nat} (h : LxR R K f) {d : Nat} {t : Tree} (hx : Wx t) (hm : t.many ≤ f + 1) (e : t.kind = 44) : LN (xBare R d t).data.toList (kBare K d t) := by
  have hh := hx.here.2
  rw [show cls t.kind = 4 by rw [e]; rfl] at hh
  obtain ⟨a, b, ek, va, vb⟩ := hh
  have xa : Wx a := hx.kid (by rw [ek]; simp)
  have xb : Wx b := hx.kid (by rw [ek]; simp)
  have ma : a.many ≤ f := manyKid hm (by rw [ek]; simp)
  have mb : b.many ≤ f := manyKid hm (by rw [ek]; simp)
  have e1 : xBare R d t = ((xVal R d 8 (kid t 0) ++ ⟨#[91]⟩) ++ xVal R d 1 (kid t 1)) ++ ⟨#[93]⟩ := by rw [xBare, e]; rfl
  have e2 : kBare K d t = kVal K d 8 (kid t 0) ++ [sg [91]] ++ kVal K d 1 (kid t 1) ++ [sg [93]] := by rw [kBare, e]; rfl
  rw [e1, e2, ki0 ek, ki1 ek, bl_app, bl_app, bl_app]
  exact ((((l_val h xa va ma).f (lf_one (c := 91) (by decide)) ⟨_, _, rfl, by decide⟩).appN (l_val h xb vb mb)).f (lf_one (c := 93) (by decide)) ⟨_, _, rfl, by decide⟩).n
theorem lx_list {R : Wr} {K : Wt} {f : Nat} (h : LxR R K f) {d : Nat} {t : Tree} (hx : Wx t) (hm : t.many ≤ f + 1) (h1 : t.kind = 25 ∨ t.kind = 26 ∨ t.kind = 27) : LN (xBare R d t).data.toList (kBare K d t) := by
  have hh := hx.here.2
  have hn := hx.here.1.nm
  have hc : cls t.kind = 1 := by rcases h1 with e | e | e <;> rw [e] <;> rfl
  rw [hc] at hh
  have hvs : VS f t.kids := fun k hk => ⟨hx.kid hk, hh.2 k hk, manyKid hm hk⟩
  have ha : ∃ c b', (xArgs R d t.kids).data.toList = c :: b' ∧ nb c.toNat = false := ⟨40, (xVals R d t.kids).data.toList ++ [41], by unfold xArgs; rw [bl_app, bl_app]; rfl, by decide⟩
  rcases h1 with e | e | e
  · have e1 : xBare R d t = (⟨#[110, 101, 119, 32]⟩ ++ t.text) ++ xArgs R d t.kids := by rw [xBare, xSimple, e]; rfl
    have e2 : kBare K d t = ([sg [110, 101, 119]] ++ [nmT t.text]) ++ kArgs K d t.kids := by rw [kBare, kSimple, e]; rfl
    rw [e1, e2, bl_app, bl_app]
    exact (((lf_wsp (c := 110) (b := [101, 119]) (by decide)).appN (ln_name (hn (by rw [e]; rfl)))).f (l_args h hvs) ha).n
  · have e1 : xBare R d t = (⟨#[115, 117, 112, 101, 114, 46]⟩ ++ t.text) ++ xArgs R d t.kids := by rw [xBare, xSimple, e]; rfl
    have e2 : kBare K d t = ([sg [115, 117, 112, 101, 114], sg [46]] ++ [nmT t.text]) ++ kArgs K d t.kids := by rw [kBare, kSimple, e]; rfl
    rw [e1, e2, bl_app, bl_app]
    exact (((lf_wop (c := 115) (b := [117, 112, 101, 114]) (e := 46) (by decide) (by decide) (by decide)).appN (ln_name (hn (by rw [e]; rfl)))).f (l_args h hvs) ha).n
  · have e1 : xBare R d t = (⟨#[91]⟩ ++ xVals R d t.kids) ++ ⟨#[93]⟩ := by rw [xBare, xSimple, e]; rfl
    have e2 : kBare K d t = [sg [91]] ++ kVals K d t.kids ++ [sg [93]] := by rw [kBare, kSimple, e]; rfl
    rw [e1, e2, bl_app, bl_app]
    exact (((lf_one (c := 91) (by decide)).appN (l_vals h hvs)).f (lf_one (c := 93) (by decide)) ⟨_, _, rfl, by decide⟩).n
theorem lx_lambda {R : Wr} {K : Wt} {f : Nat} (h : LxR R K f) {d : Nat} {t : Tree} (hx : Wx t) (hm : t.many ≤ f + 1) (e : t.kind = 28) : LN (xBare R d t).data.toList (kBare K d t) := by
  have hh := hx.here.2
  rw [show cls t.kind = 2 by rw [e]; rfl] at hh
  obtain ⟨p, b, ek, hp, hb⟩ := hh
  have e1 : xBare R d t = ⟨#[102, 110]⟩ ++ xFun R d t := by rw [xBare, xSimple, e]; rfl
  have e2 : kBare K d t = [sg [102, 110]] ++ kFun K d t := by rw [kBare, kSimple, e]; rfl
  rw [e1, e2, bl_app]
  exact ((ln_word (c := 102) (b := [110]) (by decide)).f (l_fun h hx ek hp hb hm) ⟨40, (xVals R d (kid t 0).kids).data.toList ++ ([41, 32] ++ (xBraces R d (kid t 1).kids).data.toList), by unfold xFun; rw [bl_app, bl_app, bl_app]; simp, by decide⟩).n
theorem lx_bare {R : Wr} {K : Wt} {f : Nat} (h : LxR R K f) {d : Nat} {t : Tree} (hx : Wx t) (hv : vK t) (hm : t.many ≤ f + 1) : LN (xBare R d t).data.toList (kBare K d t) := by
  unfold vK at hv
  rcases (by omega : (31 ≤ t.kind ∧ t.kind ≤ 39) ∨ (t.kind = 40 ∨ t.kind = 41 ∨ t.kind = 42 ∨ t.kind = 30) ∨ (t.kind = 43 ∨ t.kind = 45) ∨ t.kind = 44 ∨ (t.kind = 25 ∨ t.kind = 26 ∨ t.kind = 27) ∨ t.kind = 28 ∨ (t.kind = 18 ∨ t.kind = 19 ∨ t.kind = 20 ∨ t.kind = 21 ∨ t.kind = 22 ∨ t.kind = 23 ∨ t.kind = 24 ∨ t.kind = 29)) with e | e | e | e | e | e | e
  · exact lx_pair h hx hm e.1 e.2
  · exact lx_one h hx hm e
  · exact lx_more h hx hm e
  · exact lx_elem h hx hm e
  · exact lx_list h hx hm e
  · exact lx_lambda h hx hm e
  · exact lx_leaf hx e
end Go.Proofs.YtndgajlidckcdaaGreatDoor
