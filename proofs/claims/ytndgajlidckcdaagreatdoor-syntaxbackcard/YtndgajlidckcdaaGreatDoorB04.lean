/-
  Walks of the lexer: a string is read.
  Walks of the lexer: a string is read, to its end.
  Walks of the lexer: a string is read, to its end.
  Walks of the lexer: a number is read.
  Walks of the lexer: blanks.
  The lexer comes to the next token.
-/
import Derived.Test.YtndgajlidckcdaaGreatDoorB03
import Derived.Laws.IdiomStrings
import Derived.Lib.BufferRead
namespace Go.Proofs.YtndgajlidckcdaaGreatDoor
open Go.RowKit

/-- The byte at a place. -/
def byteAt (s : ByteArray) (p : Nat) : Nat := if h : p < s.size then s[p].toNat else 0
theorem byteAt_eq {s : ByteArray} {p : Nat} (h : p < s.size) : s[p].toNat = byteAt s p := by rw [byteAt, dif_pos h]
theorem byteAt_lt (s : ByteArray) (p : Nat) : byteAt s p < 256 := by
  unfold byteAt
  split
  · exact UInt8.toNat_lt _
  · omega

/-- A byte of a string may stand at a place. -/
def inStr (s : ByteArray) (p : Nat) : Prop := p < s.size ∧ byteAt s p ≠ 10

/-- What a string says from a place on, and where it ends; or where it can't go on. -/
def strP (s : ByteArray) : Nat → Nat → List UInt8 → Nat ⊕ (List UInt8 × Nat)
  | 0, p, _ => .inl p
  | f + 1, p, acc =>
    if p < s.size ∧ byteAt s p ≠ 10 then
      (if byteAt s p = 34 then .inr (acc, p + 1)
       else if byteAt s p = 92 then
        (if p + 1 < s.size ∧ byteAt s (p + 1) ≠ 10 then
          (match escP (byteAt s (p + 1)) with
            | some c => strP s f (p + 2) (acc ++ [UInt8.ofNat c])
            | none => .inl (p + 1))
         else .inl (p + 1))
       else strP s f (p + 1) (acc ++ [UInt8.ofNat (byteAt s p)]))
    else .inl p

theorem strP_stable (s : ByteArray) : ∀ (f g p : Nat) (acc : List UInt8), s.size - p ≤ f → s.size - p ≤ g → strP s f p acc = strP s g p acc
  | 0, g, p, acc, h1, h2 => by
    cases g with
    | zero => rfl
    | succ g => rw [strP, strP, if_neg (by omega)]
  | f + 1, 0, p, acc, h1, h2 => by rw [strP, strP, if_neg (by omega)]
  | f + 1, g + 1, p, acc, h1, h2 => by
    rw [strP, strP]
    by_cases h : p < s.size ∧ byteAt s p ≠ 10
    · rw [if_pos h, if_pos h, strP_stable s f g (p + 1) _ (by omega) (by omega)]
      have e : ∀ c, strP s f (p + 2) (acc ++ [UInt8.ofNat c]) = strP s g (p + 2) (acc ++ [UInt8.ofNat c]) := fun c => strP_stable s f g (p + 2) _ (by omega) (by omega)
      simp only [e]
    · rw [if_neg h, if_neg h]

def strT (s : ByteArray) (p : Nat) (acc : List UInt8) : Nat ⊕ (List UInt8 × Nat) := strP s (s.size - p) p acc

theorem strT_no {s : ByteArray} {p : Nat} {acc : List UInt8} (h : ¬ inStr s p) : strT s p acc = .inl p := by
  unfold strT inStr at *
  cases hf : s.size - p with
  | zero => rfl
  | succ f => rw [strP, if_neg h]
theorem strT_step {s : ByteArray} {p : Nat} {acc : List UInt8} (h : inStr s p) : strT s p acc =
      (if byteAt s p = 34 then .inr (acc, p + 1)
       else if byteAt s p = 92 then
        (if p + 1 < s.size ∧ byteAt s (p + 1) ≠ 10 then
          (match escP (byteAt s (p + 1)) with
            | some c => strT s (p + 2) (acc ++ [UInt8.ofNat c])
            | none => .inl (p + 1))
         else .inl (p + 1))
       else strT s (p + 1) (acc ++ [UInt8.ofNat (byteAt s p)])) := by
  unfold strT inStr at *
  have h1 := h.1
  rw [show s.size - p = (s.size - (p + 1)) + 1 by omega, strP, if_pos h]
  have e : ∀ c, strP s (s.size - (p + 1)) (p + 2) (acc ++ [UInt8.ofNat c]) = strP s (s.size - (p + 2)) (p + 2) (acc ++ [UInt8.ofNat c]) := fun c => strP_stable s _ _ (p + 2) _ (by omega) (by omega)
  simp only [e]
theorem strT_quote {s : ByteArray} {p : Nat} {acc : List UInt8} (h : inStr s p) (h1 : byteAt s p = 34) : strT s p acc = .inr (acc, p + 1) := by
  rw [strT_step h, if_pos h1]
theorem strT_bad {s : ByteArray} {p : Nat} {acc : List UInt8} (h : inStr s p) (h1 : byteAt s p = 92) (h2 : ¬ inStr s (p + 1)) : strT s p acc = .inl (p + 1) := by
  rw [strT_step h, if_neg (by omega), if_pos h1, if_neg (show ¬ (p + 1 < s.size ∧ byteAt s (p + 1) ≠ 10) from h2)]
theorem strT_none {s : ByteArray} {p : Nat} {acc : List UInt8} (h : inStr s p) (h1 : byteAt s p = 92) (h2 : inStr s (p + 1)) (h3 : escP (byteAt s (p + 1)) = none) : strT s p acc = .inl (p + 1) := by
  rw [strT_step h, if_neg (by omega), if_pos h1, if_pos (show p + 1 < s.size ∧ byteAt s (p + 1) ≠ 10 from h2), h3]
theorem strT_esc {s : ByteArray} {p c : Nat} {acc : List UInt8} (h : inStr s p) (h1 : byteAt s p = 92) (h2 : inStr s (p + 1)) (h3 : escP (byteAt s (p + 1)) = some c) : strT s p acc = strT s (p + 2) (acc ++ [UInt8.ofNat c]) := by
  rw [strT_step h, if_neg (by omega), if_pos h1, if_pos (show p + 1 < s.size ∧ byteAt s (p + 1) ≠ 10 from h2), h3]
theorem strT_plain {s : ByteArray} {p : Nat} {acc : List UInt8} (h : inStr s p) (h1 : byteAt s p ≠ 34) (h2 : byteAt s p ≠ 92) : strT s p acc = strT s (p + 1) (acc ++ [UInt8.ofNat (byteAt s p)]) := by
  rw [strT_step h, if_neg h1, if_neg h2]

theorem inString_yes {w : World} {r : Nat} {S : LS} (h : Rd w r S) (fit : Fit S) (hs : inStr S.src S.pl) :
    Calls Tryz.prog 180 #[.pointer (some ⟨r, 0, none⟩)] w fun e w' => e = .returned (.int .u8 (byteAt S.src S.pl)) ∧ Rd w' r { S with pl := S.pl + 1 } ∧ Ext r w w' := by
  have := inString_ok h fit hs.1 (by rw [byteAt_eq hs.1]; exact hs.2)
  rw [byteAt_eq hs.1] at this
  exact this
theorem inString_stop {w : World} {r : Nat} {S : LS} (h : Rd w r S) (fit : Fit S) (hs : ¬ inStr S.src S.pl) :
    Calls Tryz.prog 180 #[.pointer (some ⟨r, 0, none⟩)] w fun e w' => e = .panicked (thrown 3 S.pl) ∧ Ext r w w' :=
  inString_no h fit fun hlt => by
    rw [byteAt_eq hlt]
    unfold inStr at hs
    omega
theorem escaped_yes {w : World} {r : Nat} {S : LS} (h : Rd w r S) (fit : Fit S) (hs : inStr S.src S.pl) {c : Nat} (hc : escP (byteAt S.src S.pl) = some c) :
    Calls Tryz.prog 181 #[.pointer (some ⟨r, 0, none⟩)] w fun e w' => e = .returned (.int .u8 c) ∧ Rd w' r { S with pl := S.pl + 1 } ∧ Ext r w w' := by
  have := escaped_any h fit hs.1 (by rw [byteAt_eq hs.1]; exact hs.2)
  rw [byteAt_eq hs.1, hc] at this
  exact this.mono fun e w' h => ⟨h.1.1, h.1.2, h.2⟩
theorem escaped_none {w : World} {r : Nat} {S : LS} (h : Rd w r S) (fit : Fit S) (hs : inStr S.src S.pl) (hc : escP (byteAt S.src S.pl) = none) :
    Calls Tryz.prog 181 #[.pointer (some ⟨r, 0, none⟩)] w fun e w' => e = .panicked (thrown 3 S.pl) ∧ Ext r w w' := by
  have := escaped_any h fit hs.1 (by rw [byteAt_eq hs.1]; exact hs.2)
  rw [byteAt_eq hs.1, hc] at this
  exact this.mono fun e w' h => ⟨h.1, h.2⟩
set_option maxHeartbeats 400000 in
theorem escaped_stop {w : World} {r : Nat} {S : LS} (h : Rd w r S) (fit : Fit S) (hs : ¬ inStr S.src S.pl) :
    Calls Tryz.prog 181 #[.pointer (some ⟨r, 0, none⟩)] w fun e w' => e = .panicked (thrown 3 S.pl) ∧ Ext r w w' := by
  have HI := hide (inString_stop h fit hs)
  clear h fit hs
  go_enter Tryz.func181, Tryz.ntmps181
  go_wp2_with fail
  refine (unhide HI).mono ?_
  rintro e w1 ⟨rfl, hx⟩
  exact ⟨rfl, rfl, hx⟩

/-- A string's bytes, as cells. -/
def bcells (l : List UInt8) : List Value := l.map fun b => .int .u8 b.toNat

end Go.Proofs.YtndgajlidckcdaaGreatDoor

namespace Go.Proofs.YtndgajlidckcdaaGreatDoor
open Go.RowKit

theorem infoU8 : (Tryz.prog.info? 5).map (fun i => (i.zero, i.size, i.bytes)) = some (some (.int .u8 0), 1, 1) := by kernel_rfl

theorem rd_grown {w w' : World} {r : Nat} {S : LS} {row : Option Nat} (h : Rd w r S) (hg : w.grownBy w' row) (hr : some r ≠ row) : Rd w' r S := by
  have hl := h.lt
  obtain ⟨t, h⟩ := h
  exact ⟨t, (hg.block r hl hr).trans h⟩
/-- Behind an append to a row of the call's own. -/
theorem ext_grown {a w w' : World} {r : Nat} {row : Option Nat} (h : Ext r a w) (hg : w.grownBy w' row) (hr : ∀ k, row = some k → a.heap.size ≤ k) : Ext r a w' :=
  ⟨hg.os.trans h.os, hg.tape.trans h.tape, hg.output.trans h.output, Nat.le_trans h.size hg.size, fun k hk hkr => (hg.block k (Nat.lt_of_lt_of_le hk h.size) (fun e => by have := hr k e.symm; omega)).trans (h.block k hk hkr)⟩
theorem owns_ext {w w' : World} {r base : Nat} {e : TypeId} {size : Nat} {v : Value} {n : Nat} {xs : List Value} (h : w.ownsRow base e size v n xs) (hx : Ext r w w') (hr : r < base) : w'.ownsRow base e size v n xs := by
  obtain ⟨h1, h2⟩ := h
  refine ⟨h1, ?_⟩
  rcases h2 with h2 | ⟨g, cap, cur, hv, hg, hh, hs⟩
  · exact Or.inl h2
  · exact Or.inr ⟨g, cap, cur, hv, hg, (hx.block g (Array.getElem?_eq_some_iff.1 hh).1 (by omega)).trans hh, hs⟩
theorem owns_not {w : World} {base : Nat} {e : TypeId} {size : Nat} {v : Value} {n : Nat} {xs : List Value} (h : w.ownsRow base e size v n xs) : ∀ k, v.ownBlock = some k → base ≤ k := fun k hk => (h.lt k hk).1

end Go.Proofs.YtndgajlidckcdaaGreatDoor

namespace Go.Proofs.YtndgajlidckcdaaGreatDoor
open Go.RowKit

def strPost (t : Nat ⊕ (List UInt8 × Nat)) (S : LS) (r : Nat) (e : Ending) (w' : World) : Prop := match t with
  | .inl p => e = .panicked (thrown 3 p)
  | .inr (said, p) => if 300 < said.length then e = .panicked (thrown 4 S.tp) else e = .returned (.tuple #[]) ∧ Rd w' r { S with pl := p, kd := 4, tx := ⟨said.toArray⟩ }

theorem str_long {said : List UInt8} {p : Nat} {S : LS} {r : Nat} {e : Ending} {w' : World} (h : 300 < said.length) (he : e = .panicked (thrown 4 S.tp)) : strPost (.inr (said, p)) S r e w' := by
  show if 300 < said.length then _ else _
  rw [if_pos h]
  exact he
theorem str_short {said : List UInt8} {p : Nat} {S : LS} {r : Nat} {e : Ending} {w' : World} (h : ¬ 300 < said.length) (he : e = .returned (.tuple #[])) (hr : Rd w' r { S with pl := p, kd := 4, tx := ⟨said.toArray⟩ }) : strPost (.inr (said, p)) S r e w' := by
  show if 300 < said.length then _ else _
  rw [if_neg h]
  exact ⟨he, hr⟩

theorem byte_back {n : Nat} (h : n < 256) : (UInt8.ofNat n).toNat = n := by simp; omega
theorem escP_lt {n c : Nat} (h : escP n = some c) : c < 256 := by
  unfold escP at h
  split at h
  · cases h; omega
  · split at h
    · cases h; omega
    · split at h
      · cases h; omega
      · cases h

set_option maxRecDepth 100000 in
set_option maxHeartbeats 2000000 in
theorem readString_any {w : World} {r : Nat} {S : LS} (h : Rd w r S) (fit : Fit S) (hlt : S.pl < S.src.size) :
    Calls Tryz.prog 121 #[.pointer (some ⟨r, 0, none⟩)] w fun e w' => strPost (strT S.src (S.pl + 1) []) S r e w' ∧ Ext r w w' := by
  obtain ⟨i0, hi, hz0, hz1, hz2⟩ := info_parts infoU8
  obtain ⟨z1, z2, z3⟩ := fit
  have hrw := h.lt
  have c1 := h.c1
  have f1 := h.f1
  have H0 := hide h
  clear h
  go_enter Tryz.func121, Tryz.ntmps121
  go_wp2_with fail
  have h1 : Rd (w.setCell ⟨r, 1, none⟩ (.int .i64 ((S.pl : Int) + 1))) r { S with pl := S.pl + 1 } := (unhide H0).set1 (S.pl + 1)
  have hx1 : Ext r w (w.setCell ⟨r, 1, none⟩ (.int .i64 ((S.pl : Int) + 1))) := (Ext.refl r w).setCell 1 _
  clear c1 f1
  generalize w.setCell ⟨r, 1, none⟩ (.int .i64 ((S.pl : Int) + 1)) = w1 at *
  by_cases hin : inStr S.src (S.pl + 1)
  · refine (inString_yes h1 ⟨z1, by show S.pl + 1 ≤ S.src.size; omega, by show S.ln ≤ S.pl + 1 + 1; omega⟩ hin).mono ?_
    rintro e w2 ⟨rfl, h2, hx2⟩
    go_wp2_with fail
    go_loopg [2, 3] (S.src.size - (S.pl + 1)) (fun g v c wr => ∃ (q : Nat) (acc : List UInt8), inStr S.src q ∧ c = .int .u8 (byteAt S.src q) ∧ Rd wr r { S with pl := q + 1 } ∧ Hid (wr.ownsRow w.heap.size 5 1 v acc.length (bcells acc)) ∧
      Hid (Ext r w wr) ∧ g = S.src.size - q ∧ Hid (strT S.src q acc = strT S.src (S.pl + 1) []) ∧ acc.length ≤ q ∧ S.pl ≤ q)
    case atStart => exact ⟨S.pl + 1, [], hin, rfl, h2, World.ownsRow_nil _ _ _ _, hx1.trans hx2, rfl, rfl, by simp, by omega⟩
    case round =>
      clear h1 hx1 h2 hx2 hin H0
      obtain ⟨q, acc, hin, rfl, hR, HO, HX, rfl, HE, hacc, hq⟩ := hrel
      have HR := hide hR
      clear hR
      have hbd := byteAt_lt S.src q
      have hqs : q < S.src.size := hin.1
      rcases (by omega : byteAt S.src q = 34 ∨ byteAt S.src q = 92 ∨ (byteAt S.src q ≠ 34 ∧ byteAt S.src q ≠ 92)) with hb | hb | ⟨hb1, hb2⟩
      · have HE' := hide ((strT_quote hin hb).symm.trans (unhide HE))
        have b1 : ((byteAt S.src q : Int) != 34) = false := by rw [bne_eq_false_iff_eq]; omega
        rcases (unhide HO).2 with ⟨rfl, hn⟩ | ⟨g, cap, cur, rfl, hg, hh, hncap, hcap, hcur, hxs⟩
        · have hacc0 : acc = [] := List.eq_nil_of_length_eq_zero hn
          subst hacc0
          have hconv := Lib.run_convert_nil_bytes (P := Tryz.prog) wr 136 9 5 0 Tryz.underlying136 Tryz.underlying5 Tryz.underlying9
          have HR' := unhide HR
          have c3 := HR'.c3
          have c7 := HR'.c7
          have f3 := HR'.f3
          have f7 := HR'.frozen 7
          clear HR'
          go_wp2_with fail
          go_end0
          refine ⟨?_, ((unhide HX).setCell 3 _).setCell 7 _⟩
          rw [← unhide HE']
          exact ⟨rfl, ((unhide HR).set3 4).set7 _⟩
        · have hown : wr.ownsRow w.heap.size 5 1 (.slice (some ⟨g, 0, none⟩) acc.length cap) acc.length (bcells acc) := unhide HO
          by_cases hlong : 300 < acc.length
          · have b3 : decide (300 < (acc.length : Int)) = true := decide_eq_true (by omega)
            go_wp2_with fail
            refine (fail_any (unhide HR) _).mono ?_
            rintro e w3 ⟨rfl, rfl⟩
            refine ⟨rfl, ?_, unhide HX⟩
            rw [← unhide HE']
            exact str_long hlong rfl
          · have b3 : decide (300 < (acc.length : Int)) = false := decide_eq_false (by omega)
            have hconv := run_convert_bytes_back (P := Tryz.prog) wr 136 9 5 ⟨g, 0, none⟩ cap acc Tryz.underlying136 Tryz.underlying5 Tryz.underlying9 (fun j hj => hown.cells rfl j _ (by simp [bcells, hj]))
            have HR' := unhide HR
            have c3 := HR'.c3
            have c7 := HR'.c7
            have f3 := HR'.f3
            have f7 := HR'.frozen 7
            clear HR' hown hxs hh
            go_wp2_with fail
            go_end0
            refine ⟨?_, ((unhide HX).setCell 3 _).setCell 7 _⟩
            rw [← unhide HE']
            exact str_short hlong rfl (((unhide HR).set3 4).set7 _)
      · have b1 : ((byteAt S.src q : Int) != 34) = true := by rw [bne_iff_ne]; omega
        have b2 : ((byteAt S.src q : Int) == 92) = true := by rw [beq_iff_eq]; omega
        by_cases hin1 : inStr S.src (q + 1)
        · cases hesc : escP (byteAt S.src (q + 1)) with
          | none =>
            have HF := hide ((strT_none (acc := acc) hin hb hin1 hesc).symm.trans (unhide HE))
            go_wp2_with fail
            refine (escaped_none (unhide HR) ⟨z1, by show q + 1 ≤ S.src.size; omega, by show S.ln ≤ q + 1 + 1; omega⟩ hin1 hesc).mono ?_
            rintro e w3 ⟨rfl, hx3⟩
            refine ⟨rfl, ?_, (unhide HX).trans hx3⟩
            rw [← unhide HF]
            exact rfl
          | some c0 =>
            have HS1 := hide (strT_esc (acc := acc) hin hb hin1 hesc)
            have hc0 := escP_lt hesc
            have hin1' : q + 1 < S.src.size := hin1.1
            go_wp2_with fail
            refine (escaped_yes (unhide HR) ⟨z1, by show q + 1 ≤ S.src.size; omega, by show S.ln ≤ q + 1 + 1; omega⟩ hin1 hesc).mono ?_
            rintro e w1' ⟨rfl, hr1, hx1⟩
            have HR1 := hide hr1
            have HX1 := hide ((unhide HX).trans hx1)
            have HO1 := hide (owns_ext (unhide HO) hx1 hrw)
            clear HR HX HO hr1 hx1 hesc hb hin
            have hin := hin1
            go_wp2_with (at_builtin; refine wpList_append_own _ rfl _ _ 136 rfl w.heap.size 5 i0 (.int .u8 0) 1 1 Tryz.underlying136 hi hz0 hz1 hz2 rfl (by decide) _ _ _ rfl ((unhide HO1).alloc _) ⟨w1'.heap.size, 0, none⟩ 1 1 [.int .u8 (c0 : Int)] rfl rfl (cell_one_new _ _ _) ?c2 ?c3 ?c4 ?c5 ?_)
            case c2 => intro u hu; simp at hu; subst hu; rfl
            case c3 => unfold maxLen; omega
            case c4 => omega
            case c5 => have := (unhide HX1).size; simp; omega
            intro v' w2 hown' hgrow _
            have hr2 : Rd w2 r { S with pl := q + 2 } := rd_grown ((unhide HR1).alloc _) hgrow (fun e => by have := owns_not (unhide HO1) _ e.symm; omega)
            have hx2 : Ext r w w2 := ext_grown ((unhide HX1).alloc _) hgrow (fun k hk => owns_not (unhide HO1) k hk)
            have ho2 := hide hown'
            have HX2 := hide hx2
            have HR2 := hide hr2
            clear hown' hgrow hr2 hx2
            go_wp2_with fail
            by_cases hin2 : inStr S.src (q + 2)
            · refine (inString_yes (unhide HR2) ⟨z1, by unfold inStr at hin2; show q + 2 ≤ S.src.size; omega, by show S.ln ≤ q + 2 + 1; omega⟩ hin2).mono ?_
              rintro e w3 ⟨rfl, hr3, hx3⟩
              go_wp2_with fail
              go_roundg (S.src.size - (q + 2))
              case measure => unfold inStr at hin2; omega
              case rel =>
                refine ⟨q + 2, acc ++ [UInt8.ofNat c0], hin2, rfl, hr3, ?_, hide ((unhide HX2).trans hx3), rfl, hide ((unhide HS1).symm.trans (unhide HE)), by simp; omega, by omega⟩
                refine hide ?_
                have := owns_ext (unhide ho2) hx3 hrw
                simpa [bcells, byte_back hc0] using this
            · have HF := hide ((strT_no (acc := acc ++ [UInt8.ofNat c0]) hin2).symm.trans ((unhide HS1).symm.trans (unhide HE)))
              refine (inString_stop (unhide HR2) ⟨z1, by show q + 2 ≤ S.src.size; unfold inStr at hin; omega, by show S.ln ≤ q + 2 + 1; omega⟩ hin2).mono ?_
              rintro e w3 ⟨rfl, hx3⟩
              refine ⟨rfl, ?_, (unhide HX2).trans hx3⟩
              rw [← unhide HF]
              exact rfl
        · have HF := hide ((strT_bad (acc := acc) hin hb hin1).symm.trans (unhide HE))
          go_wp2_with fail
          refine (escaped_stop (unhide HR) ⟨z1, by show q + 1 ≤ S.src.size; omega, by show S.ln ≤ q + 1 + 1; omega⟩ hin1).mono ?_
          rintro e w3 ⟨rfl, hx3⟩
          refine ⟨rfl, ?_, (unhide HX).trans hx3⟩
          rw [← unhide HF]
          exact rfl
      · have b1 : ((byteAt S.src q : Int) != 34) = true := by rw [bne_iff_ne]; omega
        have b2 : ((byteAt S.src q : Int) == 92) = false := by rw [beq_eq_false_iff_ne]; omega
        have HS1 := hide (strT_plain (acc := acc) hin hb1 hb2)
        have HR1 := HR
        have HX1 := HX
        have HO1 := HO
        clear HR HX HO hb1 hb2
        go_wp2_with (at_builtin; refine wpList_append_own _ rfl _ _ 136 rfl w.heap.size 5 i0 (.int .u8 0) 1 1 Tryz.underlying136 hi hz0 hz1 hz2 rfl (by decide) _ _ _ rfl ((unhide HO1).alloc _) ⟨wr.heap.size, 0, none⟩ 1 1 [.int .u8 (byteAt S.src q)] rfl rfl (cell_one_new _ _ _) ?c2 ?c3 ?c4 ?c5 ?_)
        case c2 => intro u hu; simp at hu; subst hu; rfl
        case c3 => unfold maxLen; omega
        case c4 => omega
        case c5 => have := (unhide HX1).size; simp; omega
        intro v' w2 hown' hgrow _
        have hr2 : Rd w2 r { S with pl := q + 1 } := rd_grown ((unhide HR1).alloc _) hgrow (fun e => by have := owns_not (unhide HO1) _ e.symm; omega)
        have hx2 : Ext r w w2 := ext_grown ((unhide HX1).alloc _) hgrow (fun k hk => owns_not (unhide HO1) k hk)
        have ho2 := hide hown'
        have HX2 := hide hx2
        have HR2 := hide hr2
        clear hown' hgrow hr2 hx2
        go_wp2_with fail
        by_cases hin2 : inStr S.src (q + 1)
        · refine (inString_yes (unhide HR2) ⟨z1, by unfold inStr at hin2; show q + 1 ≤ S.src.size; omega, by show S.ln ≤ q + 1 + 1; omega⟩ hin2).mono ?_
          rintro e w3 ⟨rfl, hr3, hx3⟩
          go_wp2_with fail
          go_roundg (S.src.size - (q + 1))
          case measure => unfold inStr at hin2; omega
          case rel =>
            refine ⟨q + 1, acc ++ [UInt8.ofNat (byteAt S.src q)], hin2, rfl, hr3, ?_, hide ((unhide HX2).trans hx3), rfl, hide ((unhide HS1).symm.trans (unhide HE)), by simp; omega, by omega⟩
            refine hide ?_
            have := owns_ext (unhide ho2) hx3 hrw
            simpa [bcells, byte_back hbd] using this
        · have HF := hide ((strT_no (acc := acc ++ [UInt8.ofNat (byteAt S.src q)]) hin2).symm.trans ((unhide HS1).symm.trans (unhide HE)))
          refine (inString_stop (unhide HR2) ⟨z1, by show q + 1 ≤ S.src.size; unfold inStr at hin; omega, by show S.ln ≤ q + 1 + 1; omega⟩ hin2).mono ?_
          rintro e w3 ⟨rfl, hx3⟩
          refine ⟨rfl, ?_, (unhide HX2).trans hx3⟩
          rw [← unhide HF]
          exact rfl
  · have HF := hide (strT_no (acc := []) hin)
    refine (inString_stop h1 ⟨z1, by show S.pl + 1 ≤ S.src.size; omega, by show S.ln ≤ S.pl + 1 + 1; omega⟩ hin).mono ?_
    rintro e w3 ⟨rfl, hx3⟩
    refine ⟨rfl, ?_, hx1.trans hx3⟩
    rw [unhide HF]
    exact rfl
end Go.Proofs.YtndgajlidckcdaaGreatDoor

namespace Go.Proofs.YtndgajlidckcdaaGreatDoor
open Go.RowKit

/-- A number's digits, from a place on. -/
def numAt (S : LS) : ByteArray := S.src.extract S.pl (runP S.src dg (S.src.size - S.pl) S.pl)
def numEnd (S : LS) : Nat := runP S.src dg (S.src.size - S.pl) S.pl

theorem run_digits' {w : World} {r : Nat} {S : LS} (h : Rd w r S) (fit : Fit S) :
    Calls Tryz.prog 176 #[.pointer (some ⟨r, 0, none⟩), .func (.func 119) #[] #[]] w fun e w' => e = .returned (.string (numAt S)) ∧
      S.pl ≤ numEnd S ∧ Rd w' r { S with pl := numEnd S } ∧ Fit { S with pl := numEnd S } ∧ Ext r w w' := run_digits h fit

theorem numAt_size (S : LS) (fit : Fit S) : (numAt S).size ≤ 3000 := by
  have := fit.size
  unfold numAt
  rw [ByteArray.size_extract]
  omega

set_option maxRecDepth 100000 in
set_option maxHeartbeats 1000000 in
theorem readNumber_ok {w : World} {r : Nat} {S : LS} (h : Rd w r S) (fit : Fit S) (u : Nat) (hu : Lib.parseUintB 64 (numAt S).data.toList = .ok u) (hb : decide ((9223372036854775808 : Int) < (u : Int)) = false) :
    Calls Tryz.prog 120 #[.pointer (some ⟨r, 0, none⟩)] w fun e w' => e = .returned (.tuple #[]) ∧ Rd w' r { S with pl := numEnd S, kd := 3, nn := wrap64 u } ∧ Ext r w w' := by
  have HS := hide (run_digits' h fit)
  have hs := numAt_size S fit
  have HU := hide hu
  clear hu h fit
  go_enter Tryz.func120, Tryz.ntmps120
  go_wp2_with fail
  refine (unhide HS).mono ?_
  rintro e w1 ⟨rfl, hle, h1, fit1, hx⟩
  go_wp2_with fail
  refine (Tryz.strconv_ParseUint_10_at64_ok (numAt S) (by omega) u (unhide HU) _).mono ?_
  rintro e w2 ⟨rfl, hw2⟩
  have hbl : Below w1.heap.size w1 w2 := by
    rcases hw2 with rfl | rfl
    · exact Below.refl _ _
    · exact Lib.bytesWorld_below _ _ _
  clear hw2
  have h2 := rd_below h1 hbl
  have c3 := h2.c3
  have c8 := h2.c8
  have f3 := h2.f3
  have f8 := h2.frozen 8
  go_wp2_with fail
  go_end0
  refine ⟨rfl, ?_, ((hx.trans (ext_below hbl)).setCell 3 _).setCell 8 _⟩
  have := (h2.set3 3).set8 (wrap64 u)
  exact this

set_option maxRecDepth 100000 in
set_option maxHeartbeats 1000000 in
theorem readNumber_great {w : World} {r : Nat} {S : LS} (h : Rd w r S) (fit : Fit S) (u : Nat) (hu : Lib.parseUintB 64 (numAt S).data.toList = .ok u) (hb : decide ((9223372036854775808 : Int) < (u : Int)) = true) :
    Calls Tryz.prog 120 #[.pointer (some ⟨r, 0, none⟩)] w fun e w' => e = .panicked (thrown 2 S.tp) ∧ Ext r w w' := by
  have HS := hide (run_digits' h fit)
  have hs := numAt_size S fit
  have HU := hide hu
  clear hu h fit
  go_enter Tryz.func120, Tryz.ntmps120
  go_wp2_with fail
  refine (unhide HS).mono ?_
  rintro e w1 ⟨rfl, hle, h1, fit1, hx⟩
  go_wp2_with fail
  refine (Tryz.strconv_ParseUint_10_at64_ok (numAt S) (by omega) u (unhide HU) _).mono ?_
  rintro e w2 ⟨rfl, hw2⟩
  have hbl : Below w1.heap.size w1 w2 := by
    rcases hw2 with rfl | rfl
    · exact Below.refl _ _
    · exact Lib.bytesWorld_below _ _ _
  clear hw2
  have h2 := rd_below h1 hbl
  go_wp2_with fail
  refine (fail_any h2 _).mono ?_
  rintro e w3 ⟨rfl, rfl⟩
  exact ⟨rfl, rfl, hx.trans (ext_below hbl)⟩

set_option maxRecDepth 100000 in
set_option maxHeartbeats 1000000 in
theorem readNumber_range {w : World} {r : Nat} {S : LS} (h : Rd w r S) (fit : Fit S) (hu : Lib.parseUintB 64 (numAt S).data.toList = .range) (te : TypeId) (pe : Value) (hv : w.cell? ⟨7, 0, none⟩ = some (.iface te pe)) (hr : 7 ≠ r) :
    Calls Tryz.prog 120 #[.pointer (some ⟨r, 0, none⟩)] w fun e w' => e = .panicked (thrown 2 S.tp) ∧ Ext r w w' := by
  have HS := hide (run_digits' h fit)
  have hs := numAt_size S fit
  have HU := hide hu
  have hsz := World.block_lt_of_cell? w _ hv
  clear hu h fit
  go_enter Tryz.func120, Tryz.ntmps120
  go_wp2_with fail
  refine (unhide HS).mono ?_
  rintro e w1 ⟨rfl, hle, h1, fit1, hx⟩
  have hv1 : w1.cell? ⟨7, 0, none⟩ = some (.iface te pe) := by
    rw [World.cell?_of_block (w := w) (hx.block _ hsz hr)]
    exact hv
  go_wp2_with fail
  refine (Tryz.strconv_ParseUint_10_at64_range (numAt S) (by omega) (unhide HU) _ _ hv1 (Or.inr ⟨_, _, rfl⟩)).mono ?_
  rintro e w2 ⟨N, rfl, hN, _, hbl⟩
  have h2 := rd_below h1 hbl
  clear hv hv1
  go_wp2_with fail
  refine (fail_any h2 _).mono ?_
  rintro e w3 ⟨rfl, rfl⟩
  exact ⟨rfl, rfl, hx.trans (ext_below hbl)⟩

/-- Digits alone are a number, or too great. -/
theorem digits_end : ∀ (l : List UInt8) (M acc : Nat), (∀ c ∈ l, dg c.toNat = true) → (∃ u, Lib.parseUintM M acc l = .ok u) ∨ Lib.parseUintM M acc l = .range
  | [], M, acc, _ => Or.inl ⟨acc, rfl⟩
  | c :: l, M, acc, h => by
    have h1 := h c (by simp)
    have h2 : 48 ≤ c.toNat ∧ c.toNat ≤ 57 := by
      simp [dg] at h1
      omega
    rw [Lib.parseUintM, if_pos h2]
    split
    · exact Or.inr rfl
    · split
      · exact Or.inr rfl
      · exact digits_end l M _ fun x hx => h x (by simp [hx])

end Go.Proofs.YtndgajlidckcdaaGreatDoor

namespace Go.Proofs.YtndgajlidckcdaaGreatDoor
open Go.RowKit

set_option maxHeartbeats 400000 in
theorem skipBlanks_any {w : World} {r : Nat} {S : LS} (h : Rd w r S) (fit : Fit S) :
    Calls Tryz.prog 116 #[.pointer (some ⟨r, 0, none⟩)] w fun e w' => e = .returned (.tuple #[]) ∧
      Rd w' r { S with pl := (skipP S.src (S.src.size - S.pl) S.pl S.ln).1, ln := (skipP S.src (S.src.size - S.pl) S.pl S.ln).2 } ∧
      Fit { S with pl := (skipP S.src (S.src.size - S.pl) S.pl S.ln).1, ln := (skipP S.src (S.src.size - S.pl) S.pl S.ln).2 } ∧ Ext r w w' := by
  obtain ⟨z1, z2, z3⟩ := fit
  go_enter Tryz.func116, Tryz.ntmps116
  go_wp2
  go_loopg [] (S.src.size - S.pl) (fun k wr => ∃ p l : Nat, Rd wr r { S with pl := p, ln := l } ∧ p ≤ S.src.size ∧ l ≤ p + 1 ∧ k = S.src.size - p ∧ Hid (skipP S.src (S.src.size - p) p l = skipP S.src (S.src.size - S.pl) S.pl S.ln) ∧ Ext r w wr)
  case atStart => exact ⟨S.pl, S.ln, h, z2, z3, rfl, rfl, Ext.refl _ _⟩
  case round =>
    clear h
    obtain ⟨p, l, h, hp, hl, hk, HE, HX⟩ := hrel
    have c0 := h.c0
    have c1 := h.c1
    have c2 := h.c2
    have f1 := h.f1
    have f2 := h.f2
    have HR := hide h
    clear h
    subst hk
    by_cases hlt : p < S.src.size
    · have hlt' : decide ((p : Int) < S.src.size) = true := by simp; omega
      rcases (by omega : S.src[p].toNat = 10 ∨ S.src[p].toNat = 32 ∨ (S.src[p].toNat ≠ 10 ∧ S.src[p].toNat ≠ 32)) with h1 | h1 | ⟨h1, h2⟩
      · have H1 := hide ((skip_feed hlt h1).symm.trans (unhide HE))
        have b1 : ((S.src[p].toNat : Int) == 10) = true := by rw [beq_iff_eq]; omega
        clear h1 HE
        go_wp2
        go_quiet (fail)
        go_wp2
        go_quiet (fail)
        go_wp2
        go_roundg (S.src.size - (p + 1))
        case measure => omega
        case rel => exact ⟨p + 1, l + 1, (((unhide HR).drewN _).set2 (l + 1)).set1 (p + 1), by omega, by omega, rfl, H1, ((HX.drewN _).setCell 2 _).setCell 1 _⟩
      · have H1 := hide ((skip_blank hlt h1).symm.trans (unhide HE))
        have b1 : ((S.src[p].toNat : Int) == 10) = false := by rw [beq_eq_false_iff_ne]; omega
        have b2 : ((S.src[p].toNat : Int) == 32) = true := by rw [beq_iff_eq]; omega
        clear h1 HE
        go_wp2
        go_quiet (fail)
        go_wp2
        go_quiet (fail)
        go_wp2
        go_roundg (S.src.size - (p + 1))
        case measure => omega
        case rel => exact ⟨p + 1, l, ((unhide HR).drewN _).set1 (p + 1), by omega, by omega, rfl, H1, (HX.drewN _).setCell 1 _⟩
      · have H1 := hide ((skip_stop hlt h1 h2).symm.trans (unhide HE))
        have b1 : ((S.src[p].toNat : Int) == 10) = false := by rw [beq_eq_false_iff_ne]; omega
        have b2 : ((S.src[p].toNat : Int) == 32) = false := by rw [beq_eq_false_iff_ne]; omega
        clear h1 h2 HE
        go_wp2
        go_quiet (fail)
        go_wp2
        go_quiet (fail)
        go_wp2
        refine bodyPost_ret (results_none Tryz.results116 _ _ _) rfl ?_
        rw [← unhide H1]
        exact ⟨rfl, (unhide HR).drewN _, ⟨z1, hp, hl⟩, HX.drewN _⟩
    · have hlt' : decide ((p : Int) < S.src.size) = false := by simp; omega
      have H1 := hide ((skip_end hlt).symm.trans (unhide HE))
      clear HE
      go_wp2
      go_quiet (fail)
      go_wp2
      go_end0
      rw [← unhide H1]
      exact ⟨rfl, (unhide HR).drewN _, ⟨z1, hp, hl⟩, HX.drewN _⟩
end Go.Proofs.YtndgajlidckcdaaGreatDoor

namespace Go.Proofs.YtndgajlidckcdaaGreatDoor
open Go.RowKit

/-- The reader with an empty token that begins at a place and a line. -/
def LS.fresh (S : LS) (p l : Nat) : LS := { S with pl := p, ln := l, kd := 0, tp := p, tl := l, mrk := ⟨#[]⟩, tx := ⟨#[]⟩, nn := 0 }

/-- The token that begins where the reader stands: an error and its place, or the reader behind it. -/
def advS (S : LS) : (Int × Nat) ⊕ LS :=
  if S.pl < S.src.size then
    (if lt (byteAt S.src S.pl) = true then
      (if isW (wordAt S) = true then .inr { S with pl := wordEnd S, kd := 1, mrk := wordAt S }
       else if 16 < (wordAt S).size then .inl (4, S.tp)
       else .inr { S with pl := wordEnd S, kd := 2, tx := wordAt S })
     else if dg (byteAt S.src S.pl) = true then
      (match Lib.parseUintB 64 (numAt S).data.toList with
        | .ok u => if decide ((9223372036854775808 : Int) < (u : Int)) = true then .inl (2, S.tp) else .inr { S with pl := numEnd S, kd := 3, nn := wrap64 u }
        | _ => .inl (2, S.tp))
     else if byteAt S.src S.pl = 34 then
      (match strT S.src (S.pl + 1) [] with
        | .inl q => .inl (3, q)
        | .inr (said, q) => if 300 < said.length then .inl (4, S.tp) else .inr { S with pl := q, kd := 4, tx := ⟨said.toArray⟩ })
     else if signP S.src S.pl = 0 then .inl (3, S.tp)
     else .inr { S with pl := S.pl + signP S.src S.pl, kd := 1, mrk := S.src.extract S.pl (S.pl + signP S.src S.pl) })
  else .inr S

/-- The next token. -/
def advP (S : LS) : (Int × Nat) ⊕ LS := advS (S.fresh (skipP S.src (S.src.size - S.pl) S.pl S.ln).1 (skipP S.src (S.src.size - S.pl) S.pl S.ln).2)

def advPost (t : (Int × Nat) ⊕ LS) (r : Nat) (e : Ending) (w' : World) : Prop := match t with
  | .inl (e0, p) => e = .panicked (thrown e0 p)
  | .inr S => e = .returned (.tuple #[]) ∧ Rd w' r S

theorem advS_end {S : LS} (h : ¬ S.pl < S.src.size) : advS S = .inr S := by rw [advS, if_neg h]
theorem advS_word {S : LS} (h : S.pl < S.src.size) (h1 : lt (byteAt S.src S.pl) = true) (h2 : isW (wordAt S) = true) : advS S = .inr { S with pl := wordEnd S, kd := 1, mrk := wordAt S } := by
  rw [advS, if_pos h, if_pos h1, if_pos h2]
theorem advS_long {S : LS} (h : S.pl < S.src.size) (h1 : lt (byteAt S.src S.pl) = true) (h2 : isW (wordAt S) = false) (h3 : 16 < (wordAt S).size) : advS S = .inl (4, S.tp) := by
  rw [advS, if_pos h, if_pos h1, if_neg (by rw [h2]; decide), if_pos h3]
theorem advS_name {S : LS} (h : S.pl < S.src.size) (h1 : lt (byteAt S.src S.pl) = true) (h2 : isW (wordAt S) = false) (h3 : (wordAt S).size ≤ 16) : advS S = .inr { S with pl := wordEnd S, kd := 2, tx := wordAt S } := by
  rw [advS, if_pos h, if_pos h1, if_neg (by rw [h2]; decide), if_neg (by omega)]
theorem advS_num {S : LS} (h : S.pl < S.src.size) (h1 : lt (byteAt S.src S.pl) = false) (h2 : dg (byteAt S.src S.pl) = true) {u : Nat} (h3 : Lib.parseUintB 64 (numAt S).data.toList = .ok u) (h4 : decide ((9223372036854775808 : Int) < (u : Int)) = false) :
    advS S = .inr { S with pl := numEnd S, kd := 3, nn := wrap64 u } := by
  rw [advS, if_pos h, if_neg (by rw [h1]; decide), if_pos h2, h3]
  show (if decide ((9223372036854775808 : Int) < (u : Int)) = true then _ else _) = _
  rw [if_neg (by rw [h4]; decide)]
theorem advS_great {S : LS} (h : S.pl < S.src.size) (h1 : lt (byteAt S.src S.pl) = false) (h2 : dg (byteAt S.src S.pl) = true) {u : Nat} (h3 : Lib.parseUintB 64 (numAt S).data.toList = .ok u) (h4 : decide ((9223372036854775808 : Int) < (u : Int)) = true) :
    advS S = .inl (2, S.tp) := by
  rw [advS, if_pos h, if_neg (by rw [h1]; decide), if_pos h2, h3]
  show (if decide ((9223372036854775808 : Int) < (u : Int)) = true then _ else _) = _
  rw [if_pos h4]
theorem advS_range {S : LS} (h : S.pl < S.src.size) (h1 : lt (byteAt S.src S.pl) = false) (h2 : dg (byteAt S.src S.pl) = true) (h3 : Lib.parseUintB 64 (numAt S).data.toList = .range) : advS S = .inl (2, S.tp) := by
  rw [advS, if_pos h, if_neg (by rw [h1]; decide), if_pos h2, h3]
theorem advS_str {S : LS} (h : S.pl < S.src.size) (h1 : lt (byteAt S.src S.pl) = false) (h2 : dg (byteAt S.src S.pl) = false) (h3 : byteAt S.src S.pl = 34) : advS S =
      (match strT S.src (S.pl + 1) [] with
        | .inl q => .inl (3, q)
        | .inr (said, q) => if 300 < said.length then .inl (4, S.tp) else .inr { S with pl := q, kd := 4, tx := ⟨said.toArray⟩ }) := by
  rw [advS, if_pos h, if_neg (by rw [h1]; decide), if_neg (by rw [h2]; decide), if_pos h3]
theorem advS_none {S : LS} (h : S.pl < S.src.size) (h1 : lt (byteAt S.src S.pl) = false) (h2 : dg (byteAt S.src S.pl) = false) (h3 : byteAt S.src S.pl ≠ 34) (h4 : signP S.src S.pl = 0) : advS S = .inl (3, S.tp) := by
  rw [advS, if_pos h, if_neg (by rw [h1]; decide), if_neg (by rw [h2]; decide), if_neg h3, if_pos h4]
theorem advS_sign {S : LS} (h : S.pl < S.src.size) (h1 : lt (byteAt S.src S.pl) = false) (h2 : dg (byteAt S.src S.pl) = false) (h3 : byteAt S.src S.pl ≠ 34) {n : Nat} (hn : signP S.src S.pl = n) (h4 : 0 < n) : advS S = .inr { S with pl := S.pl + n, kd := 1, mrk := S.src.extract S.pl (S.pl + n) } := by
  rw [advS, if_pos h, if_neg (by rw [h1]; decide), if_neg (by rw [h2]; decide), if_neg h3, if_neg (by omega), hn]

theorem str_adv {S : LS} {r : Nat} {e : Ending} {w' : World} (h : strPost (strT S.src (S.pl + 1) []) S r e w') (h0 : S.pl < S.src.size) (h1 : lt (byteAt S.src S.pl) = false) (h2 : dg (byteAt S.src S.pl) = false) (h3 : byteAt S.src S.pl = 34) : advPost (advS S) r e w' := by
  rw [advS_str h0 h1 h2 h3]
  cases ht : strT S.src (S.pl + 1) [] with
  | inl q => rw [ht] at h; exact h
  | inr x =>
    obtain ⟨said, q⟩ := x
    rw [ht] at h
    have h' : if 300 < said.length then e = .panicked (thrown 4 S.tp) else e = .returned (.tuple #[]) ∧ Rd w' r { S with pl := q, kd := 4, tx := ⟨said.toArray⟩ } := h
    show advPost (if 300 < said.length then .inl (4, S.tp) else .inr { S with pl := q, kd := 4, tx := ⟨said.toArray⟩ }) r e w'
    by_cases hl : 300 < said.length
    · rw [if_pos hl] at h' ⊢; exact h'
    · rw [if_neg hl] at h' ⊢; exact h'

theorem let_calls (c : Int) (w : World) {b : Bool} (hb : lt c = b) : Calls Tryz.prog 117 #[.int .u8 c] w fun e w' => e = .returned (.bool b) ∧ w' = w := by
  rw [← hb]; exact let_any c w
theorem dig_calls (c : Int) (w : World) {b : Bool} (hb : dg c = b) : Calls Tryz.prog 119 #[.int .u8 c] w fun e w' => e = .returned (.bool b) ∧ w' = w := by
  rw [← hb]; exact dig_any c w
theorem str_tuple {t : Nat ⊕ (List UInt8 × Nat)} {S : LS} {r : Nat} {v : Value} {w' : World} (h : strPost t S r (.returned v) w') : v = .tuple #[] := by
  unfold strPost at h
  split at h
  · cases h
  · split at h
    · cases h
    · cases h.1; rfl
theorem str_not_out (t : Nat ⊕ (List UInt8 × Nat)) (S : LS) (r : Nat) (w' : World) : ¬ strPost t S r .outgrown w' := by
  intro h
  unfold strPost at h
  split at h
  · cases h
  · split at h
    · cases h
    · cases h.1

theorem runP_le (s : ByteArray) (B : Int → Bool) : ∀ (f p : Nat), p ≤ s.size → p ≤ runP s B f p ∧ runP s B f p ≤ s.size
  | 0, p, h => ⟨Nat.le_refl _, h⟩
  | f + 1, p, h => by
    rw [runP]
    split
    · split
      · have := runP_le s B f (p + 1) (by omega)
        omega
      · omega
    · omega
theorem runP_all (s : ByteArray) (B : Int → Bool) : ∀ (f p i : Nat), p ≤ i → i < runP s B f p → B (byteAt s i) = true
  | 0, p, i, h1, h2 => by rw [runP] at h2; omega
  | f + 1, p, i, h1, h2 => by
    rw [runP] at h2
    split at h2
    · rename_i hp
      split at h2
      · rename_i hb
        by_cases e : i = p
        · subst e; rw [← byteAt_eq hp]; exact hb
        · exact runP_all s B f (p + 1) i (by omega) h2
      · omega
    · omega

/-- Digits from a place on, the first of them at hand: a number, or too great. -/
theorem num_end {S : LS} (h : S.pl < S.src.size) (h2 : dg (byteAt S.src S.pl) = true) : (∃ u, Lib.parseUintB 64 (numAt S).data.toList = .ok u) ∨ Lib.parseUintB 64 (numAt S).data.toList = .range := by
  have hf : S.src.size - S.pl = (S.src.size - (S.pl + 1)) + 1 := by omega
  have hq : S.pl + 1 ≤ numEnd S := by
    unfold numEnd
    rw [hf, runP, dif_pos h, byteAt_eq h, if_pos h2]
    exact (runP_le _ _ _ _ (by omega)).1
  have hall := runP_all S.src dg (S.src.size - S.pl) S.pl
  have hl : (numAt S).data.toList = (S.src.data.toList.drop S.pl).take (numEnd S - S.pl) := Lib.extract_data _ _ _
  have hne : (numAt S).data.toList ≠ [] := by
    intro e
    have := congrArg List.length e
    rw [hl, List.length_take, List.length_drop, ← Lib.size_eq] at this
    simp at this
    omega
  unfold Lib.parseUintB
  rw [if_neg hne]
  refine digits_end _ _ _ fun c hc => ?_
  rw [hl] at hc
  obtain ⟨i, hi, rfl⟩ := List.mem_iff_getElem.1 hc
  rw [List.length_take, List.length_drop, ← Lib.size_eq] at hi
  rw [List.getElem_take, List.getElem_drop]
  have := hall (S.pl + i) (by omega) (show S.pl + i < numEnd S by omega)
  rw [← byteAt_eq (by omega)] at this
  exact this

/-- Signs between two values: bytes, kind, strength. -/
def signRows : List (ByteArray × Nat × Nat) := [(⟨#[124, 124]⟩, 31, 1), (⟨#[38, 38]⟩, 32, 2), (⟨#[61, 61]⟩, 33, 3), (⟨#[60]⟩, 34, 4), (⟨#[43]⟩, 35, 5), (⟨#[45]⟩, 36, 5), (⟨#[42]⟩, 37, 6), (⟨#[47]⟩, 38, 6), (⟨#[37]⟩, 39, 6)]
def signCells : Array Value := (signRows.flatMap fun s => [Value.string s.1, Value.int .i64 s.2.1, Value.int .i64 s.2.2]).toArray

/-- What stays as it is in a walk that only looks for tokens. -/
structure Tabs (w : World) (r : Nat) : Prop where
  words : ∃ tt fr, w.heap[9]? = some (.cells wordCells tt fr)
  twins : ∃ tt fr, w.heap[10]? = some (.cells twinCells tt fr)
  signs : ∃ tt fr, w.heap[5]? = some (.cells signCells tt fr)
  range : ∃ te pe, w.cell? ⟨7, 0, none⟩ = some (.iface te pe)
  far : 10 < r

theorem Tabs.keep {w w' : World} {r : Nat} (h : Tabs w r) (hk : ∀ j, j ≤ 10 → j < w.heap.size → w'.heap[j]? = w.heap[j]?) : Tabs w' r := by
  refine ⟨?_, ?_, ?_, ?_, h.far⟩
  · obtain ⟨tt, fr, h1⟩ := h.words
    exact ⟨tt, fr, (hk _ (by omega) (Array.getElem?_eq_some_iff.1 h1).1).trans h1⟩
  · obtain ⟨tt, fr, h1⟩ := h.twins
    exact ⟨tt, fr, (hk _ (by omega) (Array.getElem?_eq_some_iff.1 h1).1).trans h1⟩
  · obtain ⟨tt, fr, h1⟩ := h.signs
    exact ⟨tt, fr, (hk _ (by omega) (Array.getElem?_eq_some_iff.1 h1).1).trans h1⟩
  · obtain ⟨te, pe, h1⟩ := h.range
    refine ⟨te, pe, ?_⟩
    rw [World.cell?_of_block (w := w) (hk _ (by show 7 ≤ 10; omega) (World.block_lt_of_cell? w _ h1))]
    exact h1
theorem Tabs.ext {w w' : World} {r : Nat} (h : Tabs w r) (hx : Ext r w w') : Tabs w' r :=
  h.keep fun j hj hl => hx.block j hl (by have := h.far; omega)

set_option maxRecDepth 100000 in
set_option maxHeartbeats 4000000 in
theorem advance_any {w : World} {r : Nat} {S : LS} (h : Rd w r S) (fit : Fit S) (tabs : Tabs w r) :
    Calls Tryz.prog 74 #[.pointer (some ⟨r, 0, none⟩)] w fun e w' => advPost (advP S) r e w' ∧ Ext r w w' := by
  have HS := hide (skipBlanks_any h fit)
  unfold advP
  generalize (skipP S.src (S.src.size - S.pl) S.pl S.ln).1 = p at *
  generalize (skipP S.src (S.src.size - S.pl) S.pl S.ln).2 = l at *
  have HT := hide tabs
  clear h fit tabs
  go_enter Tryz.func74, Tryz.ntmps74
  go_wp2_with fail
  refine (unhide HS).mono ?_
  clear HS
  rintro e w1 ⟨rfl, h1, fit1, hx⟩
  have c0 := h1.c0
  have c1 := h1.c1
  have c2 := h1.c2
  have c3 := h1.c3
  have c4 := h1.c4
  have c5 := h1.c5
  have c6 := h1.c6
  have c7 := h1.c7
  have c8 := h1.c8
  have f3 := h1.frozen 3
  have f4 := h1.frozen 4
  have f5 := h1.frozen 5
  have f6 := h1.frozen 6
  have f7 := h1.frozen 7
  have f8 := h1.frozen 8
  have HR := hide h1
  clear h1
  go_wp2_with fail
  go_region_held3 (fun w' => w'.cell? ⟨r, 1, none⟩ = some (.int .i64 p) ∧ w'.cell? ⟨r, 2, none⟩ = some (.int .i64 l)) ((refine ⟨?_, ?_⟩ <;> simp [World.cell?_setCell_other, c1, c2])) (fail)
  go_wp2_with fail
  have h2 : Rd ((((((w1.setCell ⟨r, 3, none⟩ (.int .i64 0)).setCell ⟨r, 4, none⟩ (.int .i64 p)).setCell ⟨r, 5, none⟩ (.int .i64 l)).setCell ⟨r, 6, none⟩ (.string ⟨#[]⟩)).setCell ⟨r, 7, none⟩ (.string ⟨#[]⟩)).setCell ⟨r, 8, none⟩ (.int .i64 0)).drew r (S.fresh p l) :=
    (((((((unhide HR).set3 0).set4 p).set5 l).set6 _).set7 _).set8 0).drew
  have hx2 : Ext r w ((((((w1.setCell ⟨r, 3, none⟩ (.int .i64 0)).setCell ⟨r, 4, none⟩ (.int .i64 p)).setCell ⟨r, 5, none⟩ (.int .i64 l)).setCell ⟨r, 6, none⟩ (.string ⟨#[]⟩)).setCell ⟨r, 7, none⟩ (.string ⟨#[]⟩)).setCell ⟨r, 8, none⟩ (.int .i64 0)).drew :=
    ((((((hx.setCell 3 _).setCell 4 _).setCell 5 _).setCell 6 _).setCell 7 _).setCell 8 _).drew
  clear c0 c1 c2 c3 c4 c5 c6 c7 c8 f3 f4 f5 f6 f7 f8 HR
  generalize ((((((w1.setCell ⟨r, 3, none⟩ (.int .i64 0)).setCell ⟨r, 4, none⟩ (.int .i64 p)).setCell ⟨r, 5, none⟩ (.int .i64 l)).setCell ⟨r, 6, none⟩ (.string ⟨#[]⟩)).setCell ⟨r, 7, none⟩ (.string ⟨#[]⟩)).setCell ⟨r, 8, none⟩ (.int .i64 0)).drew = w2 at *
  have fit2 : Fit (S.fresh p l) := ⟨fit1.size, fit1.pl, fit1.ln⟩
  have hp : p ≤ S.src.size := fit1.pl
  have z1 : S.src.size ≤ 3000 := fit1.size
  have T2 := (unhide HT).ext hx2
  clear hx fit1
  have c0 := h2.c0
  have c1 := h2.c1
  have c0' : w2.cell? ⟨r, 0, none⟩ = some (.string S.src) := c0
  have c1' : w2.cell? ⟨r, 1, none⟩ = some (.int .i64 p) := c1
  have HX2 := hide hx2
  have HR2 := hide h2
  have HF2 := hide fit2
  have HT2 := hide T2
  clear c0 c1 h2 hx2 fit2 HT T2
  by_cases hlt : p < S.src.size
  · have b0 : ((p : Int) == S.src.size) = false := by rw [beq_eq_false_iff_ne]; omega
    have hlt2 : (p : Int) < S.src.size := by omega
    have hB := byteAt_eq hlt
    have hsp : (S.fresh p l).pl < (S.fresh p l).src.size := hlt
    obtain ⟨⟨ta, fa, hwo⟩, ⟨tb, fb, htw⟩, _, ⟨te, pe, hre⟩, hfar⟩ := unhide HT2
    have HWO := hide hwo
    have HTW := hide htw
    have HRE := hide hre
    clear hwo htw hre HT2
    go_quiet (fail)
    go_wp2_with fail
    go_quiet (fail)
    go_wp2_with fail
    clear hB c0' c1'
    cases hl : lt (byteAt S.src p)
    · refine (let_calls _ _ hl).mono ?_
      rintro e w3 ⟨rfl, rfl⟩
      go_wp2_with fail
      cases hd : dg (byteAt S.src p)
      · refine (dig_calls _ _ hd).mono ?_
        rintro e w3 ⟨rfl, rfl⟩
        by_cases hq : byteAt S.src p = 34
        · have b1 : ((byteAt S.src p : Int) == 34) = true := by rw [beq_iff_eq]; omega
          have HQ := hide hq
          clear hq
          go_wp2_with fail
          refine (readString_any ((unhide HR2).drewN _) (unhide HF2) hsp).mono ?_
          rintro e w4 ⟨hpost, hx4⟩
          have hA := str_adv hpost hsp hl hd (unhide HQ)
          have hX : Ext r w w4 := ((unhide HX2).drewN _).trans hx4
          cases e with
          | returned v =>
            have hv : v = .tuple #[] := str_tuple hpost
            subst hv
            go_wp2_with fail
            go_end0
            exact ⟨hA, hX⟩
          | panicked ch => exact ⟨rfl, hA, hX⟩
          | outgrown => exact absurd hpost (str_not_out _ _ _ _)
        · have b1 : ((byteAt S.src p : Int) == 34) = false := by rw [beq_eq_false_iff_ne]; omega
          have HQ := hide hq
          clear hq
          go_wp2_with fail
          obtain ⟨n, hn⟩ : ∃ n, signP S.src p = n := ⟨_, rfl⟩
          by_cases hz : 0 < n
          · have HA := hide (advS_sign hsp hl hd (unhide HQ) hn hz)
            refine (readSign_ok ((unhide HR2).drewN _) (unhide HF2) hsp tb fb (unhide HTW) n hn hz).mono ?_
            rintro e w4 ⟨rfl, h4, hx4⟩
            clear hn
            go_wp2_with fail
            go_end0
            refine ⟨?_, ((unhide HX2).drewN _).trans hx4⟩
            rw [unhide HA]
            exact ⟨rfl, h4⟩
          · have hn0 : signP S.src p = 0 := by omega
            have HA := hide (advS_none hsp hl hd (unhide HQ) hn0)
            refine (readSign_no ((unhide HR2).drewN _) (unhide HF2) hsp tb fb (unhide HTW) hn0).mono ?_
            rintro e w4 ⟨rfl, hx4⟩
            refine ⟨rfl, ?_, ((unhide HX2).drewN _).trans hx4⟩
            rw [unhide HA]
            exact rfl
      · refine (dig_calls _ _ hd).mono ?_
        rintro e w3 ⟨rfl, rfl⟩
        go_wp2_with fail
        rcases num_end hsp hd with ⟨u, hu⟩ | hu
        · cases hg : decide ((9223372036854775808 : Int) < (u : Int))
          · have HA := hide (advS_num hsp hl hd hu hg)
            refine (readNumber_ok ((unhide HR2).drewN _) (unhide HF2) u hu hg).mono ?_
            rintro e w4 ⟨rfl, h4, hx4⟩
            clear hg hu
            go_wp2_with fail
            go_end0
            refine ⟨?_, ((unhide HX2).drewN _).trans hx4⟩
            rw [unhide HA]
            exact ⟨rfl, h4⟩
          · have HA := hide (advS_great hsp hl hd hu hg)
            refine (readNumber_great ((unhide HR2).drewN _) (unhide HF2) u hu hg).mono ?_
            rintro e w4 ⟨rfl, hx4⟩
            refine ⟨rfl, ?_, ((unhide HX2).drewN _).trans hx4⟩
            rw [unhide HA]
            exact rfl
        · have HA := hide (advS_range hsp hl hd hu)
          refine (readNumber_range ((unhide HR2).drewN _) (unhide HF2) hu te pe (unhide HRE) (by omega)).mono ?_
          rintro e w4 ⟨rfl, hx4⟩
          refine ⟨rfl, ?_, ((unhide HX2).drewN _).trans hx4⟩
          rw [unhide HA]
          exact rfl
    · refine (let_calls _ _ hl).mono ?_
      rintro e w3 ⟨rfl, rfl⟩
      go_wp2_with fail
      cases hw : isW (wordAt (S.fresh p l))
      · by_cases hlen : 16 < (wordAt (S.fresh p l)).size
        · have HA := hide (advS_long hsp hl hw hlen)
          refine (readWord_long ((unhide HR2).drewN _) (unhide HF2) ta fa (unhide HWO) (by omega) hw hlen).mono ?_
          rintro e w4 ⟨rfl, hx4⟩
          refine ⟨rfl, ?_, ((unhide HX2).drewN _).trans hx4⟩
          rw [unhide HA]
          exact rfl
        · have HA := hide (advS_name hsp hl hw (by omega))
          refine (readWord_name ((unhide HR2).drewN _) (unhide HF2) ta fa (unhide HWO) (by omega) hw (by omega)).mono ?_
          rintro e w4 ⟨rfl, h4, hx4⟩
          go_wp2_with fail
          go_end0
          refine ⟨?_, ((unhide HX2).drewN _).trans hx4⟩
          rw [unhide HA]
          exact ⟨rfl, h4⟩
      · have HA := hide (advS_word hsp hl hw)
        refine (readWord_word ((unhide HR2).drewN _) (unhide HF2) ta fa (unhide HWO) (by omega) hw).mono ?_
        rintro e w4 ⟨rfl, h4, hx4⟩
        go_wp2_with fail
        go_end0
        refine ⟨?_, ((unhide HX2).drewN _).trans hx4⟩
        rw [unhide HA]
        exact ⟨rfl, h4⟩
  · have b0 : ((p : Int) == S.src.size) = true := by rw [beq_iff_eq]; omega
    go_quiet (fail)
    go_wp2_with fail
    refine bodyPost_ret (results_none Tryz.results74 _ _ _) rfl ?_
    refine ⟨?_, (unhide HX2).drewN _⟩
    rw [advS_end (show ¬ (S.fresh p l).pl < (S.fresh p l).src.size from hlt)]
    exact ⟨rfl, (unhide HR2).drewN _⟩
end Go.Proofs.YtndgajlidckcdaaGreatDoor
