/-
  The reader's tokens: what is taken, accepted, wanted.
  The reader's results: errors that are thrown, tokens that are taken.
  The reader's tokens: accepted, wanted; names.
-/
import Derived.Test.YtndgajlidckcdaaGreatDoorB04
import Derived.Handy
namespace Go.Proofs.YtndgajlidckcdaaGreatDoor
open Go.RowKit

/-- What stays from one token to a later one. -/
structure Same (S S' : LS) : Prop where
  src : S'.src = S.src
  dp : S'.dp = S.dp
  jn : S'.jn = S.jn
theorem Same.refl (S : LS) : Same S S := ⟨rfl, rfl, rfl⟩
theorem Same.trans {a b c : LS} (h : Same a b) (k : Same b c) : Same a c := ⟨k.src.trans h.src, k.dp.trans h.dp, k.jn.trans h.jn⟩

/-- A reader that has come to a token. -/
structure Ok (S : LS) : Prop where
  fit : Fit S
  tp : S.tp ≤ S.pl
  tl : S.tl ≤ S.tp + 1
  now : S.kd ≠ 0 → S.tp < S.pl

theorem skipP_ge (s : ByteArray) : ∀ (f p l : Nat), p ≤ s.size → l ≤ p + 1 → p ≤ (skipP s f p l).1 ∧ (skipP s f p l).1 ≤ s.size ∧ (skipP s f p l).2 ≤ (skipP s f p l).1 + 1
  | 0, p, l, h, hl => ⟨Nat.le_refl _, h, hl⟩
  | f + 1, p, l, h, hl => by
    rw [skipP]
    split
    · split
      · have := skipP_ge s f (p + 1) (l + 1) (by omega) (by omega)
        omega
      · split
        · have := skipP_ge s f (p + 1) l (by omega) (by omega)
          omega
        · exact ⟨Nat.le_refl _, h, hl⟩
    · exact ⟨Nat.le_refl _, h, hl⟩

theorem strP_ge (s : ByteArray) : ∀ (f p : Nat) (acc said : List UInt8) (q : Nat), strP s f p acc = .inr (said, q) → p < q ∧ q ≤ s.size
  | 0, p, acc, said, q, h => by rw [strP] at h; cases h
  | f + 1, p, acc, said, q, h => by
    rw [strP] at h
    split at h
    · rename_i h0
      split at h
      · cases h; omega
      · split at h
        · split at h
          · split at h
            · have := strP_ge s f (p + 2) _ said q h; omega
            · cases h
          · cases h
        · have := strP_ge s f (p + 1) _ said q h; omega
    · cases h

theorem advS_ok {S S' : LS} (fit : Fit S) (hk : S.kd = 0) (ht : S.tp = S.pl) (hl : S.tl = S.ln) (h : advS S = .inr S') : Ok S' ∧ S'.tp = S.tp ∧ S'.tl = S.tl ∧ Same S S' := by
  obtain ⟨z1, z2, z3⟩ := fit
  unfold advS at h
  split at h
  · rename_i hp
    split at h
    · rename_i hlt
      have hle := runP_le S.src nb (S.src.size - S.pl) S.pl z2
      have hgt : S.pl + 1 ≤ wordEnd S := by
        unfold wordEnd
        rw [show S.src.size - S.pl = (S.src.size - (S.pl + 1)) + 1 by omega, runP, dif_pos hp, byteAt_eq hp, if_pos (by simp [nb, hlt])]
        exact (runP_le _ _ _ _ (by omega)).1
      have hle' : wordEnd S ≤ S.src.size := hle.2
      split at h
      · cases h
        exact ⟨⟨⟨z1, hle', by show S.ln ≤ wordEnd S + 1; omega⟩, by show S.tp ≤ wordEnd S; omega, by show S.tl ≤ S.tp + 1; omega, fun _ => by show S.tp < wordEnd S; omega⟩, rfl, rfl, rfl, rfl, rfl⟩
      · split at h
        · cases h
        · cases h
          exact ⟨⟨⟨z1, hle', by show S.ln ≤ wordEnd S + 1; omega⟩, by show S.tp ≤ wordEnd S; omega, by show S.tl ≤ S.tp + 1; omega, fun _ => by show S.tp < wordEnd S; omega⟩, rfl, rfl, rfl, rfl, rfl⟩
    · split at h
      · rename_i hdg
        have hle := runP_le S.src dg (S.src.size - S.pl) S.pl z2
        have hgt : S.pl + 1 ≤ numEnd S := by
          unfold numEnd
          rw [show S.src.size - S.pl = (S.src.size - (S.pl + 1)) + 1 by omega, runP, dif_pos hp, byteAt_eq hp, if_pos hdg]
          exact (runP_le _ _ _ _ (by omega)).1
        have hle' : numEnd S ≤ S.src.size := hle.2
        split at h
        · split at h
          · cases h
          · cases h
            exact ⟨⟨⟨z1, hle', by show S.ln ≤ numEnd S + 1; omega⟩, by show S.tp ≤ numEnd S; omega, by show S.tl ≤ S.tp + 1; omega, fun _ => by show S.tp < numEnd S; omega⟩, rfl, rfl, rfl, rfl, rfl⟩
        · cases h
      · split at h
        · split at h
          · cases h
          · rename_i said q hst
            have hge := strP_ge _ _ _ _ _ _ hst
            split at h
            · cases h
            · cases h
              exact ⟨⟨⟨z1, hge.2, by show S.ln ≤ q + 1; omega⟩, by show S.tp ≤ q; omega, by show S.tl ≤ S.tp + 1; omega, fun _ => by show S.tp < q; omega⟩, rfl, rfl, rfl, rfl, rfl⟩
        · split at h
          · cases h
          · rename_i hz
            have hle := sign_le hp
            cases h
            exact ⟨⟨⟨z1, hle, by show S.ln ≤ S.pl + signP S.src S.pl + 1; omega⟩, by show S.tp ≤ S.pl + signP S.src S.pl; omega, by show S.tl ≤ S.tp + 1; omega, fun _ => by show S.tp < S.pl + signP S.src S.pl; omega⟩, rfl, rfl, rfl, rfl, rfl⟩
  · cases h
    exact ⟨⟨⟨z1, z2, z3⟩, by omega, by omega, fun h => absurd hk h⟩, rfl, rfl, Same.refl _⟩

/-- The next token stands behind this one. -/
theorem advP_ok {S S' : LS} (fit : Fit S) (h : advP S = .inr S') : Ok S' ∧ S.pl ≤ S'.tp ∧ Same S S' := by
  have hs := skipP_ge S.src (S.src.size - S.pl) S.pl S.ln fit.pl fit.ln
  unfold advP at h
  generalize (skipP S.src (S.src.size - S.pl) S.pl S.ln).1 = p at *
  generalize (skipP S.src (S.src.size - S.pl) S.pl S.ln).2 = l at *
  have := advS_ok (S := S.fresh p l) ⟨fit.size, hs.2.1, hs.2.2⟩ rfl rfl rfl h
  refine ⟨this.1, ?_, this.2.2.2.src, this.2.2.2.dp, this.2.2.2.jn⟩
  rw [this.2.1]
  exact hs.1
end Go.Proofs.YtndgajlidckcdaaGreatDoor

namespace Go.Proofs.YtndgajlidckcdaaGreatDoor
open Go.RowKit

theorem hnew (w : World) (o : Obj) : (w.alloc o).heap[w.heap.size]? = some o := by
  show (w.heap.push o)[w.heap.size]? = _
  simp
theorem hnewAt (w : World) (o : Obj) {k : Nat} (h : k = w.heap.size) : (w.alloc o).heap[k]? = some o := by rw [h]; exact hnew w o
theorem hold (w : World) (o : Obj) {k : Nat} (h : k < w.heap.size) : (w.alloc o).heap[k]? = w.heap[k]? := Below.heap_alloc _ _ _ h
theorem hset {w : World} {b i : Nat} {cs : Array Value} {t : TypeId} {fr : Nat × Nat} (h : w.heap[b]? = some (.cells cs t fr)) (v : Value) : (w.setCell ⟨b, i, none⟩ v).heap[b]? = some (.cells (cs.setIfInBounds i v) t fr) := by
  simp [World.setCell, h, Array.getElem?_modify]
theorem hcell {w : World} {b : Nat} {cs : Array Value} {t : TypeId} {fr : Nat × Nat} (h : w.heap[b]? = some (.cells cs t fr)) (i : Nat) : w.cell? ⟨b, i, none⟩ = cs[i]? := by simp [World.cell?, h]
theorem hfroz {w : World} {b : Nat} {cs : Array Value} {t : TypeId} (h : w.heap[b]? = some (.cells cs t (0, 0))) (i : Nat) : w.frozen? ⟨b, i, none⟩ = false := by simp [World.frozen?, h]
theorem hother {w : World} {b k i : Nat} (v : Value) (h : k ≠ b) : (w.setCell ⟨b, i, none⟩ v).heap[k]? = w.heap[k]? := Below.heap_setCell _ _ _ _ h

/-- The block of the first of three variables that the reader of one strength keeps. -/
def jbase (r l : Nat) : Nat := r + 1 + 3 * (6 - l)
/-- The function that reads parts with signs of one strength between. -/
def jval (r l : Nat) : Value := .func (.func 112) #[] #[.pointer (some ⟨jbase r l + 2, 0, none⟩), .pointer (some ⟨jbase r l, 0, none⟩), .pointer (some ⟨jbase r l + 1, 0, none⟩)]
/-- The function that reads such a part. -/
def jpart (r l : Nat) : Value := if l = 6 then .func (.func 72) #[.pointer (some ⟨r, 0, none⟩)] #[] else jval r (l + 1)
/-- The readers of the six strengths lie in memory, behind the reader's block. -/
structure Jc (w : World) (r : Nat) : Prop where
  rr : ∀ l, 1 ≤ l → l ≤ 6 → ∃ t, w.heap[jbase r l]? = some (.cells #[.pointer (some ⟨r, 0, none⟩)] t (0, 0))
  lv : ∀ l : Nat, 1 ≤ l → l ≤ 6 → ∃ t, w.heap[jbase r l + 1]? = some (.cells #[.int .i64 l] t (0, 0))
  pt : ∀ l, 1 ≤ l → l ≤ 6 → ∃ t, w.heap[jbase r l + 2]? = some (.cells #[jpart r l] t (0, 0))
theorem Jc.keep {w w' : World} {r : Nat} (h : Jc w r) (hk : ∀ j, r < j → j ≤ r + 18 → j < w.heap.size → w'.heap[j]? = w.heap[j]?) : Jc w' r := by
  refine ⟨fun l h1 h2 => ?_, fun l h1 h2 => ?_, fun l h1 h2 => ?_⟩
  · obtain ⟨t, h⟩ := h.rr l h1 h2
    exact ⟨t, (hk _ (by unfold jbase; omega) (by unfold jbase; omega) (Array.getElem?_eq_some_iff.1 h).1).trans h⟩
  · obtain ⟨t, h⟩ := h.lv l h1 h2
    exact ⟨t, (hk _ (by unfold jbase; omega) (by unfold jbase; omega) (Array.getElem?_eq_some_iff.1 h).1).trans h⟩
  · obtain ⟨t, h⟩ := h.pt l h1 h2
    exact ⟨t, (hk _ (by unfold jbase; omega) (by unfold jbase; omega) (Array.getElem?_eq_some_iff.1 h).1).trans h⟩
theorem Jc.ext {w w' : World} {r : Nat} (h : Jc w r) (hx : Ext r w w') : Jc w' r := h.keep fun j h1 _ h3 => hx.block j h3 (by omega)
theorem Jc.lt {w : World} {r : Nat} (h : Jc w r) : r + 18 < w.heap.size := by
  obtain ⟨t, h⟩ := h.pt 1 (by omega) (by omega)
  have := (Array.getElem?_eq_some_iff.1 h).1
  unfold jbase at this
  omega

/-- A reader in memory that has come to a token, with all that it looks into. -/
structure Cx (w : World) (r : Nat) (S : LS) : Prop where
  rd : Rd w r S
  ok : Ok S
  tabs : Tabs w r
  jc : Jc w r
  jn : S.jn = jval r 1
theorem Cx.ext {w w' : World} {r : Nat} {S S' : LS} (h : Cx w r S) (hx : Ext r w w') (hr : Rd w' r S') (ho : Ok S') (hs : S'.jn = S.jn) : Cx w' r S' := ⟨hr, ho, h.tabs.ext hx, h.jc.ext hx, hs.trans h.jn⟩
theorem Cx.drewN {w : World} {r : Nat} {S : LS} (h : Cx w r S) (n : Nat) : Cx (w.drewN n) r S := h.ext ((Ext.refl r w).drewN n) (h.rd.drewN n) h.ok rfl
theorem Cx.alloc {w : World} {r : Nat} {S : LS} (h : Cx w r S) (o : Obj) : Cx (w.alloc o) r S := h.ext ((Ext.refl r w).alloc o) (h.rd.alloc o) h.ok rfl

theorem Cx.setCell {w : World} {r : Nat} {S : LS} (h : Cx w r S) {b : Nat} (hb : r + 18 < b) (i : Nat) (v : Value) : Cx (w.setCell ⟨b, i, none⟩ v) r S := by
  have hj := h.jc.keep (w' := w.setCell ⟨b, i, none⟩ v) fun j _ h2 _ => hother v (by omega)
  have hjn := h.jn
  have ht := h.tabs.keep (w' := w.setCell ⟨b, i, none⟩ v) fun j h1 _ => hother v (by have := h.tabs.far; omega)
  obtain ⟨⟨t, hr⟩, ok, _, _, _⟩ := h
  exact ⟨⟨t, (hother v (by omega)).trans hr⟩, ok, ht, hj, hjn⟩

/-- What is read: an error and its place, or something and the reader behind it. -/
abbrev Res (α : Type) : Type := (Int × Nat) ⊕ (α × LS)
def bnd {α β : Type} (t : Res α) (k : α → LS → Res β) : Res β := match t with
  | .inl f => .inl f
  | .inr (a, S) => k a S
theorem bnd_inl {α β : Type} {t : Res α} {k : α → LS → Res β} {f : Int × Nat} (h : t = .inl f) : bnd t k = .inl f := by rw [h]; rfl
theorem bnd_inr {α β : Type} {t : Res α} {k : α → LS → Res β} {a : α} {S : LS} (h : t = .inr (a, S)) : bnd t k = k a S := by rw [h]; rfl

/-- How a call ends by what is read. -/
def Ret {α : Type} (t : Res α) (r : Nat) (V : α → Value → World → Prop) (e : Ending) (w' : World) : Prop := match t with
  | .inl f => e = .panicked (thrown f.1 f.2)
  | .inr x => ∃ v, e = .returned v ∧ V x.1 v w' ∧ Cx w' r x.2

theorem Ret.inl {α : Type} {t : Res α} {r : Nat} {V : α → Value → World → Prop} {w' : World} {f : Int × Nat} (h : t = .inl f) : Ret t r V (.panicked (thrown f.1 f.2)) w' := by rw [h]; exact rfl
theorem Ret.inr {α : Type} {t : Res α} {r : Nat} {V : α → Value → World → Prop} {w' : World} {a : α} {S : LS} {v : Value} (h : t = .inr (a, S)) (hv : V a v w') (hc : Cx w' r S) : Ret t r V (.returned v) w' := by rw [h]; exact ⟨v, rfl, hv, hc⟩

/-- A call by its contract: the ways on which it throws, and those on which it comes back. -/
theorem Ret.call {α : Type} {P : Program} {F : FuncId} {args : Array Value} {w : World} {t : Res α} {r : Nat} {V : α → Value → World → Prop} {R : Ending → World → Prop}
    (hc : Calls P F args w fun e w' => Ret t r V e w' ∧ Ext r w w')
    (hp : ∀ f w', t = .inl f → Ext r w w' → R (.panicked (thrown f.1 f.2)) w')
    (hk : ∀ a S v w', t = .inr (a, S) → V a v w' → Cx w' r S → Ext r w w' → R (.returned v) w') : Calls P F args w R :=
  hc.mono fun e w' ⟨h, hx⟩ => by
    cases ht : t with
    | inl f =>
      rw [ht] at h
      obtain rfl : e = .panicked (thrown f.1 f.2) := h
      exact hp f w' ht hx
    | inr x =>
      rw [ht] at h
      obtain ⟨v, rfl, hv, hcx⟩ := h
      exact hk x.1 x.2 v w' ht hv hcx hx

def vUnit (_ : Unit) (v : Value) (_ : World) : Prop := v = .tuple #[]
def vBool (b : Bool) (v : Value) (_ : World) : Prop := v = .bool b
def vText (s : ByteArray) (v : Value) (_ : World) : Prop := v = .string s

/-- A word or sign is come to. -/
def LS.is (S : LS) (m : ByteArray) : Bool := (S.kd == 1) && (S.mrk.toList == m.toList)
/-- The token that was come to, as a value. -/
def LS.tok (S : LS) : Value := .agg #[.int .i64 S.kd, .int .i64 S.tp, .int .i64 S.tl, .string S.mrk, .string S.tx, .int .i64 S.nn]

def takeP (S : LS) : Res Unit := match advP S with
  | .inl f => .inl f
  | .inr S' => .inr ((), S')
def acceptP (m : ByteArray) (S : LS) : Res Bool := if S.is m = true then bnd (takeP S) fun _ S' => .inr (true, S') else .inr (false, S)
def wantP (m : ByteArray) (S : LS) : Res Unit := if S.is m = true then takeP S else .inl (3, S.tp)
def nameP (S : LS) : Res ByteArray := if S.kd = 2 then bnd (takeP S) fun _ S' => .inr (S.tx, S') else .inl (3, S.tp)

theorem takeP_ok {S S' : LS} (h : takeP S = .inr ((), S')) : advP S = .inr S' := by
  unfold takeP at h
  split at h
  · cases h
  · rename_i hx; cases h; exact hx

theorem is_calls {w : World} {r : Nat} {S : LS} (h : Rd w r S) (m : ByteArray) {b : Bool} (hb : S.is m = b) :
    Calls Tryz.prog 108 #[.pointer (some ⟨r, 0, none⟩), .string m] w fun e w' => e = .returned (.bool b) ∧ w' = w := by
  rw [← hb]
  exact is_any h m

def vTok (S : LS) (_ : Unit) (v : Value) (_ : World) : Prop := v = S.tok

theorem advance_calls {w : World} {r : Nat} {S : LS} (cx : Cx w r S) :
    Calls Tryz.prog 74 #[.pointer (some ⟨r, 0, none⟩)] w fun e w' => Ret (takeP S) r vUnit e w' ∧ Ext r w w' := by
  refine (advance_any cx.rd cx.ok.fit cx.tabs).mono ?_
  rintro e w' ⟨hp, hx⟩
  refine ⟨?_, hx⟩
  unfold takeP
  cases ha : advP S with
  | inl f => rw [ha] at hp; exact hp
  | inr S' =>
    rw [ha] at hp
    have hok := advP_ok cx.ok.fit ha
    exact ⟨_, hp.1, rfl, hp.2, hok.1, cx.tabs.ext hx, cx.jc.ext hx, hok.2.2.jn.trans cx.jn⟩

set_option maxRecDepth 100000 in
set_option maxHeartbeats 1000000 in
theorem take_any {w : World} {r : Nat} {S : LS} (cx : Cx w r S) :
    Calls Tryz.prog 114 #[.pointer (some ⟨r, 0, none⟩)] w fun e w' => Ret (takeP S) r (vTok S) e w' ∧ Ext r w w' := by
  have hrw := cx.rd.lt
  have HJ := hide cx.jc.lt
  have c3 := cx.rd.c3
  have c4 := cx.rd.c4
  have c5 := cx.rd.c5
  have c6 := cx.rd.c6
  have c7 := cx.rd.c7
  have c8 := cx.rd.c8
  have HC := hide cx
  clear cx
  go_enter Tryz.func114, Tryz.ntmps114
  go_wp2_with fail
  have cxa := ((unhide HC).alloc (.cells #[.int .i64 0, .int .i64 0, .int .i64 0, .string ⟨#[]⟩, .string ⟨#[]⟩, .int .i64 0] 125)).alloc (.cells #[.int .i64 S.kd, .int .i64 S.tp, .int .i64 S.tl, .string S.mrk, .string S.tx, .int .i64 S.nn] 125)
  refine Ret.call (advance_calls cxa) ?_ ?_
  · intro f w1 hf hx
    exact ⟨rfl, Ret.inl hf, (((Ext.refl r w).alloc _).alloc _).trans hx⟩
  · intro a S1 v w1 hf hv cx1 hx
    obtain rfl : v = .tuple #[] := hv
    have hb0 : w1.heap[w.heap.size]? = some (.cells #[.int .i64 0, .int .i64 0, .int .i64 0, .string ⟨#[]⟩, .string ⟨#[]⟩, .int .i64 0] 125 (0, 0)) := by
      rw [hx.block _ (by simp; omega) (by omega), hold _ _ (by simp), hnew]
    have hb1 : w1.heap[w.heap.size + 1]? = some (.cells #[.int .i64 S.kd, .int .i64 S.tp, .int .i64 S.tl, .string S.mrk, .string S.tx, .int .i64 S.nn] 125 (0, 0)) := by
      rw [hx.block _ (by simp) (by omega)]
      exact hnewAt _ _ (by simp)
    clear c3 c4 c5 c6 c7 c8
    have HF := hide hf
    have HX := hide ((((Ext.refl r w).alloc _).alloc _).trans hx)
    have HC1 := hide cx1
    clear hf hx cx1 cxa
    have d0 := hcell hb1 0
    have d1 := hcell hb1 1
    have d2 := hcell hb1 2
    have d3 := hcell hb1 3
    have d4 := hcell hb1 4
    have d5 := hcell hb1 5
    have q0 := hcell hb0 0
    have q1 := hcell hb0 1
    have q2 := hcell hb0 2
    have q3 := hcell hb0 3
    have q4 := hcell hb0 4
    have q5 := hcell hb0 5
    have g := hfroz hb0
    have HB := hide hb0
    clear hb0 hb1
    go_wp2_with fail
    have hfin := hset (i := 5) (hset (i := 4) (hset (i := 3) (hset (i := 2) (hset (i := 1) (hset (i := 0) (unhide HB) (.int .i64 S.kd)) (.int .i64 S.tp)) (.int .i64 S.tl)) (.string S.mrk)) (.string S.tx)) (.int .i64 S.nn)
    refine bodyPost_ret (v := S.tok) (results_cell_row Tryz.results114 _ _ w.heap.size 125 _ (0, 0) _ rfl hfin Tryz.underlying125 rfl (by kernel_rfl)) rfl ?_
    have hbl : w.heap.size ≤ w.heap.size := Nat.le_refl _
    refine ⟨Ret.inr (unhide HF) rfl ?_, ?_⟩
    · exact ((((((unhide HC1).setCell (unhide HJ) _ _).setCell (unhide HJ) _ _).setCell (unhide HJ) _ _).setCell (unhide HJ) _ _).setCell (unhide HJ) _ _).setCell (unhide HJ) _ _
    · exact ((((((unhide HX).setNew ⟨w.heap.size, 0, none⟩ hbl _).setNew ⟨w.heap.size, 1, none⟩ hbl _).setNew ⟨w.heap.size, 2, none⟩ hbl _).setNew ⟨w.heap.size, 3, none⟩ hbl _).setNew ⟨w.heap.size, 4, none⟩ hbl _).setNew ⟨w.heap.size, 5, none⟩ hbl _
end Go.Proofs.YtndgajlidckcdaaGreatDoor

namespace Go.Proofs.YtndgajlidckcdaaGreatDoor
open Go.RowKit

set_option maxHeartbeats 1000000 in
theorem accept_any {w : World} {r : Nat} {S : LS} (cx : Cx w r S) (m : ByteArray) :
    Calls Tryz.prog 170 #[.pointer (some ⟨r, 0, none⟩), .string m] w fun e w' => Ret (acceptP m S) r vBool e w' ∧ Ext r w w' := by
  cases hb : S.is m
  · have HP := hide (show acceptP m S = .inr (false, S) by rw [acceptP, if_neg (by rw [hb]; decide)])
    go_enter Tryz.func170, Tryz.ntmps170
    go_wp2_with fail
    refine (is_calls cx.rd m hb).mono ?_
    rintro e w1 ⟨rfl, rfl⟩
    go_wp2_with fail
    go_ret
    exact ⟨Ret.inr (unhide HP) rfl cx, Ext.refl _ _⟩
  · have HP := hide (show acceptP m S = bnd (takeP S) fun _ S' => .inr (true, S') by rw [acceptP, if_pos hb])
    go_enter Tryz.func170, Tryz.ntmps170
    go_wp2_with fail
    refine (is_calls cx.rd m hb).mono ?_
    rintro e w1 ⟨rfl, rfl⟩
    go_wp2_with fail
    refine Ret.call (take_any cx) ?_ ?_
    · intro f w2 hf hx
      exact ⟨rfl, Ret.inl ((unhide HP).trans (bnd_inl hf)), hx⟩
    · intro a S1 v w2 hf hv cx1 hx
      have HP1 := hide ((unhide HP).trans (bnd_inr hf))
      clear HP hf cx
      go_wp2_with fail
      go_ret
      exact ⟨Ret.inr (unhide HP1) rfl cx1, hx⟩

set_option maxHeartbeats 1000000 in
theorem want_any {w : World} {r : Nat} {S : LS} (cx : Cx w r S) (m : ByteArray) :
    Calls Tryz.prog 173 #[.pointer (some ⟨r, 0, none⟩), .string m] w fun e w' => Ret (wantP m S) r vUnit e w' ∧ Ext r w w' := by
  cases hb : S.is m
  · have HA := hide (show acceptP m S = .inr (false, S) by rw [acceptP, if_neg (by rw [hb]; decide)])
    have HP := hide (show wantP m S = .inl (3, S.tp) by rw [wantP, if_neg (by rw [hb]; decide)])
    go_enter Tryz.func173, Tryz.ntmps173
    go_wp2_with fail
    refine Ret.call (accept_any cx m) ?_ ?_
    · intro f w2 hf hx
      rw [unhide HA] at hf
      cases hf
    · intro a S1 v w2 hf hv cx1 hx
      rw [unhide HA] at hf
      cases hf
      obtain rfl : v = .bool false := hv
      go_wp2_with fail
      refine (fail_any cx1.rd _).mono ?_
      rintro e w3 ⟨rfl, rfl⟩
      exact ⟨rfl, Ret.inl (unhide HP), hx⟩
  · have HA := hide (show acceptP m S = bnd (takeP S) fun _ S' => .inr (true, S') by rw [acceptP, if_pos hb])
    have HP := hide (show wantP m S = takeP S by rw [wantP, if_pos hb])
    go_enter Tryz.func173, Tryz.ntmps173
    go_wp2_with fail
    refine Ret.call (accept_any cx m) ?_ ?_
    · intro f w2 hf hx
      cases ht : takeP S with
      | inl f' =>
        rw [unhide HA, bnd_inl ht] at hf
        cases hf
        exact ⟨rfl, Ret.inl ((unhide HP).trans ht), hx⟩
      | inr x =>
        rw [unhide HA, ht] at hf
        cases hf
    · intro a S1 v w2 hf hv cx1 hx
      have HT : Hid (takeP S = .inr ((), S1) ∧ a = true) := by
        rw [unhide HA] at hf
        cases ht : takeP S with
        | inl f' => rw [ht] at hf; cases hf
        | inr x => rw [ht] at hf; cases hf; exact ⟨rfl, rfl⟩
      obtain rfl : a = true := (unhide HT).2
      obtain rfl : v = .bool true := hv
      clear hf
      go_wp2_with fail
      go_end0
      exact ⟨Ret.inr ((unhide HP).trans (unhide HT).1) rfl cx1, hx⟩

set_option maxRecDepth 100000 in
set_option maxHeartbeats 1000000 in
theorem name_any {w : World} {r : Nat} {S : LS} (cx : Cx w r S) :
    Calls Tryz.prog 183 #[.pointer (some ⟨r, 0, none⟩)] w fun e w' => Ret (nameP S) r vText e w' ∧ Ext r w w' := by
  have c3 := cx.rd.c3
  by_cases hk : S.kd = 2
  · have b0 : ((S.kd : Int) != 2) = false := by rw [bne_eq_false_iff_eq]; omega
    have HP := hide (show nameP S = bnd (takeP S) fun _ S' => .inr (S.tx, S') by rw [nameP, if_pos hk])
    clear hk
    go_enter Tryz.func183, Tryz.ntmps183
    go_wp2_with fail
    refine Ret.call (take_any cx) ?_ ?_
    · intro f w2 hf hx
      exact ⟨rfl, Ret.inl ((unhide HP).trans (bnd_inl hf)), hx⟩
    · intro a S1 v w2 hf hv cx1 hx
      have HP1 := hide ((unhide HP).trans (bnd_inr hf))
      obtain rfl : v = S.tok := hv
      clear HP hf cx c3
      unfold LS.tok
      have hfld : ∀ w : World, (Instr.field 125 (.agg #[.int .i64 S.kd, .int .i64 S.tp, .int .i64 S.tl, .string S.mrk, .string S.tx, .int .i64 S.nn]) 4).run Tryz.prog w = .ok (.string S.tx) w := fun _ => by kernel_rfl
      go_wp2_with fail
      go_ret
      exact ⟨Ret.inr (unhide HP1) rfl cx1, hx⟩
  · have b0 : ((S.kd : Int) != 2) = true := by rw [bne_iff_ne]; omega
    have HP := hide (show nameP S = .inl (3, S.tp) by rw [nameP, if_neg hk])
    clear hk
    go_enter Tryz.func183, Tryz.ntmps183
    go_wp2_with fail
    refine (fail_any cx.rd _).mono ?_
    rintro e w3 ⟨rfl, rfl⟩
    exact ⟨rfl, Ret.inl (unhide HP), Ext.refl _ _⟩

/-- More parts than there may be. -/
def limitP (n : Nat) (S : LS) : Res Unit := if n = 8 then .inl (4, S.tp) else .inr ((), S)

set_option maxHeartbeats 1000000 in
theorem limitParts_any {w : World} {r : Nat} {S : LS} (cx : Cx w r S) (n : Nat) :
    Calls Tryz.prog 214 #[.pointer (some ⟨r, 0, none⟩), .int .i64 n] w fun e w' => Ret (limitP n S) r vUnit e w' ∧ w' = w := by
  by_cases hk : n = 8
  · have b0 : ((n : Int) == 8) = true := by rw [beq_iff_eq]; omega
    have HP := hide (show limitP n S = .inl (4, S.tp) by rw [limitP, if_pos hk])
    clear hk
    go_enter Tryz.func214, Tryz.ntmps214
    go_wp2_with fail
    refine (fail_any cx.rd _).mono ?_
    rintro e w3 ⟨rfl, rfl⟩
    exact ⟨rfl, Ret.inl (unhide HP), rfl⟩
  · have b0 : ((n : Int) == 8) = false := by rw [beq_eq_false_iff_ne]; omega
    have HP := hide (show limitP n S = .inr ((), S) by rw [limitP, if_neg hk])
    clear hk
    go_enter Tryz.func214, Tryz.ntmps214
    go_wp2_with fail
    go_end0
    exact ⟨Ret.inr (unhide HP) rfl cx, rfl⟩
end Go.Proofs.YtndgajlidckcdaaGreatDoor
