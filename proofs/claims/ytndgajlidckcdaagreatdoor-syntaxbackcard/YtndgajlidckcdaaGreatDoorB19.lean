/-
  A program's text is read again: the writer's tokens.
  A program's text is read again: tokens as trees.
  A program's text is read again: tokens as trees.
  A program's text is read again: tokens as trees.
  A program's text is read again: tokens as trees.
-/
import Derived.Test.YtndgajlidckcdaaGreatDoorB18
namespace Go.Proofs.YtndgajlidckcdaaGreatDoor
open Go.RowKit
set_option linter.unusedVariables false

theorem lf_name_under {t : Tree} (hx : Wx t) (hk : t.kind = 2) : LF ((t.text ++ xUnder t) ++ ⟨#[32]⟩ : ByteArray).data.toList ([nmT t.text] ++ kUnder t) := by
  have hT := hx.here.1
  have hn := ln_name (hT.nm (by rw [hk]; rfl))
  rw [bl_app, bl_app]
  unfold xUnder kUnder
  split
  · rw [List.append_assoc]
    exact hn.f lf_sp ⟨_, _, rfl, by decide⟩
  · rename_i hu
    rw [bl_app]
    have hun : NmOk t.under := by
      rcases hT.un with e | e
      · exact absurd e hu
      · exact e.2
    have e : [nmT t.text] ++ [sg [60], nmT t.under] = ([nmT t.text] ++ ([] ++ [sg [60]] ++ []) ++ [nmT t.under]) ++ [] := rfl
    rw [e, ← List.append_assoc]
    exact ((hn.f (((lf_sp).app (lf_one (c := 60) (by decide))).app lf_sp) ⟨32, _, rfl, by decide⟩).appN (ln_name hun)).f lf_sp ⟨_, _, rfl, by decide⟩
theorem ls_class {R : Wr} {K : Wt} {f : Nat} (h : LxR R K f) {d : Nat} {t : Tree} (hx : Wx t) (hm : t.many ≤ f + 1) (e : t.kind = 2) : LF (xStm R d t).data.toList (kStm R K d t) := by
  have hh := hx.here.2
  rw [show cls t.kind = 8 by rw [e]; rfl] at hh
  obtain ⟨fs, ms, ek, _, h3, h4⟩ := hh
  have hk : ∀ k ∈ t.kids, Wx k ∧ (sK k ∨ k.kind = 2 ∨ k.kind = 3 ∨ k.kind = 4 ∨ k.kind = 5) ∧ k.many ≤ f := fun k hk => ⟨hx.kid hk, by
    rw [ek] at hk
    rcases List.mem_append.1 hk with q | q
    · exact Or.inr (Or.inr (Or.inl (h3 k q)))
    · exact Or.inr (Or.inr (Or.inr (Or.inl (h4 k q)))), manyKid hm hk⟩
  have e1 : xStm R d t = (((⟨#[99, 108, 97, 115, 115, 32]⟩ ++ t.text) ++ xUnder t) ++ ⟨#[32]⟩) ++ xBraces R d t.kids := by rw [xStm, e]; rfl
  have e2 : kStm R K d t = [sg [99, 108, 97, 115, 115]] ++ ([nmT t.text] ++ kUnder t) ++ kBraces K d t.kids := by rw [kStm, e]; simp
  have e3 : (xStm R d t).data.toList = (([99, 108, 97, 115, 115] ++ [32]) ++ ((t.text ++ xUnder t) ++ ⟨#[32]⟩ : ByteArray).data.toList) ++ (xBraces R d t.kids).data.toList := by rw [e1]; simp only [bl_app]; simp
  rw [e2, e3]
  exact ((lf_wsp (c := 99) (b := [108, 97, 115, 115]) (by decide)).app (lf_name_under hx e)).app (l_braces h hk)
theorem ls_fn {R : Wr} {K : Wt} {f : Nat} (h : LxR R K f) {d : Nat} {t : Tree} (hx : Wx t) (hm : t.many ≤ f + 1) (h1 : t.kind = 4 ∨ t.kind = 5) : LF (xStm R d t).data.toList (kStm R K d t) := by
  have hh := hx.here.2
  have hn := hx.here.1.nm
  rw [show cls t.kind = 2 by rcases h1 with e | e <;> rw [e] <;> rfl] at hh
  obtain ⟨p, b, ek, hp, hb⟩ := hh
  have hf := l_fun h hx ek hp hb hm (d := d)
  have ha : ∃ c b', (xFun R d t).data.toList = c :: b' ∧ nb c.toNat = false := ⟨40, (xVals R d (kid t 0).kids).data.toList ++ ([41, 32] ++ (xBraces R d (kid t 1).kids).data.toList), by unfold xFun; rw [bl_app, bl_app, bl_app]; simp, by decide⟩
  rcases h1 with e | e
  · have e1 : xStm R d t = t.text ++ xFun R d t := by rw [xStm, e]; rfl
    have e2 : kStm R K d t = [nmT t.text] ++ kFun K d t := by rw [kStm, e]; rfl
    rw [e1, e2, bl_app]
    exact (ln_name (hn (by rw [e]; rfl))).f hf ha
  · have e1 : xStm R d t = (⟨#[102, 110, 32]⟩ ++ t.text) ++ xFun R d t := by rw [xStm, e]; rfl
    have e2 : kStm R K d t = ([sg [102, 110]] ++ [nmT t.text]) ++ kFun K d t := by rw [kStm, e]; rfl
    rw [e1, e2, bl_app, bl_app]
    exact ((lf_wsp (c := 102) (b := [110]) (by decide)).appN (ln_name (hn (by rw [e]; rfl)))).f hf ha
theorem ls_one {R : Wr} {K : Wt} {f : Nat} (h : LxR R K f) {d : Nat} {t : Tree} (hx : Wx t) (hm : t.many ≤ f + 1) (h1 : t.kind = 8 ∨ t.kind = 13 ∨ t.kind = 16 ∨ t.kind = 17) : LF (xStm R d t).data.toList (kStm R K d t) := by
  have hh := hx.here.2
  have hn := hx.here.1.nm
  rw [show cls t.kind = 3 by rcases h1 with e | e | e | e <;> rw [e] <;> rfl] at hh
  obtain ⟨a, ek, va⟩ := hh
  have xa : Wx a := hx.kid (by rw [ek]; simp)
  have ma : a.many ≤ f := manyKid hm (by rw [ek]; simp)
  rcases h1 with e | e | e | e
  · have e1 : xStm R d t = (((⟨#[118, 97, 114, 32]⟩ ++ t.text) ++ ⟨#[32, 61, 32]⟩) ++ xVal R d 1 (kid t 0)) ++ ⟨#[59]⟩ := by rw [xStm, e]; rfl
    have e2 : kStm R K d t = (([sg [118, 97, 114]] ++ [nmT t.text]) ++ [sg [61]]) ++ kVal K d 1 (kid t 0) ++ [sg [59]] := by rw [kStm, e]; rfl
    rw [e1, e2, ki0 ek, bl_app, bl_app, bl_app, bl_app]
    exact ((((lf_wsp (c := 118) (b := [97, 114]) (by decide)).appN (ln_name (hn (by rw [e]; rfl)))).f lf_eq ⟨_, _, rfl, by decide⟩).appN (l_val h xa va ma)).f (lf_one (c := 59) (by decide)) ⟨_, _, rfl, by decide⟩
  · have e1 : xStm R d t = (⟨#[116, 104, 114, 111, 119, 32]⟩ ++ xVal R d 1 (kid t 0)) ++ ⟨#[59]⟩ := by rw [xStm, e]; rfl
    have e2 : kStm R K d t = [sg [116, 104, 114, 111, 119]] ++ kVal K d 1 (kid t 0) ++ [sg [59]] := by rw [kStm, e]; rfl
    rw [e1, e2, ki0 ek, bl_app, bl_app]
    exact ((lf_wsp (c := 116) (b := [104, 114, 111, 119]) (by decide)).appN (l_val h xa va ma)).f (lf_one (c := 59) (by decide)) ⟨_, _, rfl, by decide⟩
  · have e1 : xStm R d t = (⟨#[112, 114, 105, 110, 116, 40]⟩ ++ xVal R d 1 (kid t 0)) ++ ⟨#[41, 59]⟩ := by rw [xStm, e]; rfl
    have e2 : kStm R K d t = [sg [112, 114, 105, 110, 116], sg [40]] ++ kVal K d 1 (kid t 0) ++ ([sg [41]] ++ [sg [59]]) := by rw [kStm, e]; rfl
    rw [e1, e2, ki0 ek, bl_app, bl_app]
    exact ((lf_wop (c := 112) (b := [114, 105, 110, 116]) (e := 40) (by decide) (by decide) (by decide)).appN (l_val h xa va ma)).f ((lf_one (c := 41) (by decide)).app (lf_one (c := 59) (by decide))) ⟨_, _, rfl, by decide⟩
  · have e1 : xStm R d t = xFirst R d t ++ ⟨#[59]⟩ := by rw [xStm, e]; rfl
    have e2 : kStm R K d t = kFirst R K d t ++ [sg [59]] := by rw [kStm, e]; rfl
    rw [e1, e2, bl_app]
    exact (l_first h (ki0 ek) xa va ma).f (lf_one (c := 59) (by decide)) ⟨_, _, rfl, by decide⟩
theorem ls_set {R : Wr} {K : Wt} {f : Nat} (h : LxR R K f) {d : Nat} {t : Tree} (hx : Wx t) (hm : t.many ≤ f + 1) (e : t.kind = 9) : LF (xStm R d t).data.toList (kStm R K d t) := by
  have hh := hx.here.2
  rw [show cls t.kind = 16 by rw [e]; rfl] at hh
  obtain ⟨a, b, ek, va, vb, _⟩ := hh
  have xa : Wx a := hx.kid (by rw [ek]; simp)
  have xb : Wx b := hx.kid (by rw [ek]; simp)
  have ma : a.many ≤ f := manyKid hm (by rw [ek]; simp)
  have mb : b.many ≤ f := manyKid hm (by rw [ek]; simp)
  have e1 : xStm R d t = ((xFirst R d t ++ ⟨#[32, 61, 32]⟩) ++ xVal R d 1 (kid t 1)) ++ ⟨#[59]⟩ := by rw [xStm, e]; rfl
  have e2 : kStm R K d t = kFirst R K d t ++ [sg [61]] ++ kVal K d 1 (kid t 1) ++ [sg [59]] := by rw [kStm, e]; rfl
  rw [e1, e2, ki1 ek, bl_app, bl_app, bl_app]
  exact (((l_first h (ki0 ek) xa va ma).f lf_eq ⟨_, _, rfl, by decide⟩).appN (l_val h xb vb mb)).f (lf_one (c := 59) (by decide)) ⟨_, _, rfl, by decide⟩
theorem ls_if {R : Wr} {K : Wt} {f : Nat} (h : LxR R K f) {d : Nat} {t : Tree} (hx : Wx t) (hm : t.many ≤ f + 1) (e : t.kind = 10) : LF (xStm R d t).data.toList (kStm R K d t) := by
  have hh := hx.here.2
  rw [show cls t.kind = 6 by rw [e]; rfl] at hh
  obtain ⟨c, b, vc, hb, hk⟩ := hh
  have e1 : xStm R d t = xIf R d t := by rw [xStm, e]; rfl
  have e2 : kStm R K d t = kIf K d t := by rw [kStm, e]; rfl
  rw [e1, e2]
  unfold xIf kIf
  rcases hk with ek | ⟨x, ek, hx3⟩
  · rw [if_neg (by rw [ek]; simp), if_neg (by rw [ek]; simp), bl_app]
    exact (lf_wsp (c := 105) (b := [102]) (by decide)).app (l_guard h hx ek vc hb hm)
  · have xx : Wx x := hx.kid (by rw [ek]; simp)
    have mx : x.many ≤ f := manyKid hm (by rw [ek]; simp)
    rw [if_pos (by rw [ek]; simp), if_pos (by rw [ek]; simp), ki2 ek]
    simp only [bl_app]
    have e3 : ([sg [105, 102]] ++ kGuard K d t ++ ([sg [101, 108, 115, 101]] ++ kBraces K d x.kids)) = ([sg [105, 102]] ++ kGuard K d t ++ ((([] ++ []) ++ [sg [101, 108, 115, 101]]) ++ kBraces K d x.kids)) := rfl
    rw [e3]
    exact ((lf_wsp (c := 105) (b := [102]) (by decide)).app (l_guard h hx ek vc hb hm)).app (((lf_nl.app (lf_in d)).app (lf_wsp (c := 101) (b := [108, 115, 101]) (by decide))).app (l_braces h (body_ok xx hx3 mx (by omega))))
theorem ls_while {R : Wr} {K : Wt} {f : Nat} (h : LxR R K f) {d : Nat} {t : Tree} (hx : Wx t) (hm : t.many ≤ f + 1) (e : t.kind = 11) : LF (xStm R d t).data.toList (kStm R K d t) := by
  have hh := hx.here.2
  rw [show cls t.kind = 7 by rw [e]; rfl] at hh
  obtain ⟨c, b, ek, vc, hb⟩ := hh
  have e1 : xStm R d t = ⟨#[119, 104, 105, 108, 101, 32]⟩ ++ xGuard R d t := by rw [xStm, e]; rfl
  have e2 : kStm R K d t = [sg [119, 104, 105, 108, 101]] ++ kGuard K d t := by rw [kStm, e]; rfl
  rw [e1, e2, bl_app]
  exact (lf_wsp (c := 119) (b := [104, 105, 108, 101]) (by decide)).app (l_guard h hx ek vc hb hm)
theorem ls_ret {R : Wr} {K : Wt} {f : Nat} (h : LxR R K f) {d : Nat} {t : Tree} (hx : Wx t) (hm : t.many ≤ f + 1) (e : t.kind = 12) : LF (xStm R d t).data.toList (kStm R K d t) := by
  have hh := hx.here.2
  rw [show cls t.kind = 11 by rw [e]; rfl] at hh
  have e1 : xStm R d t = xRet R d t := by rw [xStm, e]; rfl
  have e2 : kStm R K d t = kRet K d t := by rw [kStm, e]; rfl
  rw [e1, e2]
  unfold xRet kRet
  rcases hh with ek | ⟨a, ek, va⟩
  · rw [if_pos (by rw [ek]; rfl), if_pos (by rw [ek]; rfl)]
    exact lf_wop (c := 114) (b := [101, 116, 117, 114, 110]) (e := 59) (by decide) (by decide) (by decide)
  · have xa : Wx a := hx.kid (by rw [ek]; simp)
    have ma : a.many ≤ f := manyKid hm (by rw [ek]; simp)
    rw [if_neg (by rw [ek]; simp), if_neg (by rw [ek]; simp), ki0 ek, bl_app, bl_app]
    exact ((lf_wsp (c := 114) (b := [101, 116, 117, 114, 110]) (by decide)).appN (l_val h xa va ma)).f (lf_one (c := 59) (by decide)) ⟨_, _, rfl, by decide⟩
theorem ls_try {R : Wr} {K : Wt} {f : Nat} (h : LxR R K f) {d : Nat} {t : Tree} (hx : Wx t) (hm : t.many ≤ f + 1) (e : t.kind = 14) : LF (xStm R d t).data.toList (kStm R K d t) := by
  have hh := hx.here.2
  rw [show cls t.kind = 12 by rw [e]; rfl] at hh
  obtain ⟨b, c, ek, hb, hc⟩ := hh
  have xb : Wx b := hx.kid (by rw [ek]; simp)
  have xc : Wx c := hx.kid (by rw [ek]; simp)
  have mb : b.many ≤ f := manyKid hm (by rw [ek]; simp)
  have mc : c.many ≤ f := manyKid hm (by rw [ek]; simp)
  have hc2 := xc.here.2
  rw [show cls c.kind = 13 by rw [hc]; rfl] at hc2
  obtain ⟨b2, ek2, hb2⟩ := hc2
  have e1 : xStm R d t = (((⟨#[116, 114, 121, 32]⟩ ++ xBraces R d (kid t 0).kids) ++ ⟨#[10]⟩) ++ xIn d) ++ xCatch R d (kid t 1) := by rw [xStm, e]; rfl
  have e2 : kStm R K d t = [sg [116, 114, 121]] ++ kBraces K d (kid t 0).kids ++ [] ++ [] ++ kCatch K d (kid t 1) := by rw [kStm, e]; simp
  rw [e1, e2, ki0 ek, ki1 ek, bl_app, bl_app, bl_app, bl_app]
  exact ((((lf_wsp (c := 116) (b := [114, 121]) (by decide)).app (l_braces h (body_ok xb hb mb (by omega)))).app lf_nl).app (lf_in d)).app (l_catch h xc hc ek2 hb2 (by omega))
theorem ls_field {R : Wr} {K : Wt} {d : Nat} {t : Tree} (hx : Wx t) (e : t.kind = 3) : LF (xStm R d t).data.toList (kStm R K d t) := by
  have hn := hx.here.1.nm
  have e1 : xStm R d t = (⟨#[102, 105, 101, 108, 100, 32]⟩ ++ t.text) ++ ⟨#[59]⟩ := by rw [xStm, e]; rfl
  have e2 : kStm R K d t = ([sg [102, 105, 101, 108, 100]] ++ [nmT t.text]) ++ [sg [59]] := by rw [kStm, e]; rfl
  rw [e1, e2, bl_app, bl_app]
  exact ((lf_wsp (c := 102) (b := [105, 101, 108, 100]) (by decide)).appN (ln_name (hn (by rw [e]; rfl)))).f (lf_one (c := 59) (by decide)) ⟨_, _, rfl, by decide⟩
theorem lx_all : ∀ f, LxR (xN f) (kN f) f
  | 0 => ⟨fun d t _ _ hm => by rw [many_eq] at hm; omega, fun d t _ _ hm => by rw [many_eq] at hm; omega⟩
  | f + 1 => ⟨fun d t hx hv hm => lx_bare (lx_all f) hx hv hm, fun d t hx hs hm => by
    have h := lx_all f
    show LF (xStm (xN f) d t).data.toList (kStm (xN f) (kN f) d t)
    unfold sK at hs
    rcases (by omega : t.kind = 2 ∨ (t.kind = 4 ∨ t.kind = 5) ∨ (t.kind = 8 ∨ t.kind = 13 ∨ t.kind = 16 ∨ t.kind = 17) ∨ t.kind = 9 ∨ t.kind = 10 ∨ t.kind = 11 ∨ t.kind = 12 ∨ t.kind = 14 ∨ t.kind = 3) with e | e | e | e | e | e | e | e | e
    · exact ls_class h hx hm e
    · exact ls_fn h hx hm e
    · exact ls_one h hx hm e
    · exact ls_set h hx hm e
    · exact ls_if h hx hm e
    · exact ls_while h hx hm e
    · exact ls_ret h hx hm e
    · exact ls_try h hx hm e
    · exact ls_field hx e⟩
/-- A program's text is its tokens. -/
theorem toks_text {t : Tree} (hx : Wx t) (hk : t.kind = 1) (hm : t.many ≤ 1201) : Toks (xText t).data.toList (kText t) := by
  have hh := hx.here.2
  rw [show cls t.kind = 14 by rw [hk]; rfl] at hh
  have := l_lines (lx_all 1200) (d := 0) (l := t.kids) (fun k hk => ⟨hx.kid hk, (hh k hk).imp id fun h => h.elim Or.inl fun h => Or.inr (Or.inr (Or.inr h)), manyKid hm hk⟩) [] [] toks_nil
  rw [List.append_nil, List.append_nil] at this
  exact this
end Go.Proofs.YtndgajlidckcdaaGreatDoor

namespace Go.Proofs.YtndgajlidckcdaaGreatDoor
open Go.RowKit
set_option linter.unusedVariables false

/-- The reader at another depth. -/
def md (k : Nat) : (Int × Nat) ⊕ LS → (Int × Nat) ⊕ LS
  | .inl f => .inl f
  | .inr T => .inr { T with dp := k }
theorem advS_dp (S : LS) (k : Nat) : advS { S with dp := k } = md k (advS S) := by
  unfold advS
  cases h1 : Lib.parseUintB 64 (numAt S).data.toList <;> cases h2 : strT S.src (S.pl + 1) []
  all_goals
    have h1' : Lib.parseUintB 64 (numAt { S with dp := k }).data.toList = _ := h1
    rw [h1']
    simp only [apply_ite (md k)]
    rfl
theorem stand_dp (k : Nat) : ∀ (ts : List To) (S : LS), Stand ts S → Stand ts { S with dp := k }
  | [], S, h => h
  | t :: ts, S, ⟨h1, S', h2, h3⟩ => by
    refine ⟨h1, { S' with dp := k }, ?_, stand_dp k ts S' h3⟩
    show advS { S.fresh _ _ with dp := k } = _
    rw [advS_dp]
    show md k (advP S) = _
    rw [h2]
    rfl

/-- A token is this word or sign. -/
def To.isB (t : To) (m : ByteArray) : Bool := t.kd == 1 && t.mr.data.toList == m.data.toList
def hdIs (us : List To) (m : ByteArray) : Bool := match us with
  | [] => false
  | t :: _ => t.isB m
theorem stand_is {us : List To} {S : LS} (h : Stand us S) (m : ByteArray) : S.is m = hdIs us m := by
  unfold LS.is
  cases us with
  | nil => rw [show S.kd = 0 from h]; rfl
  | cons t ts =>
    obtain ⟨⟨e1, e2, _⟩, _⟩ := h
    show _ = t.isB m
    rw [To.isB, e1, e2, ByteArray.toList_eq, ByteArray.toList_eq]

/-- What reads these tokens: too deep, or so, and it stands behind them. -/
def Go4 {α : Type} (r : Res α) (us : List To) (Q : α → Prop) : Prop := (∃ p, r = .inl (4, p)) ∨ ∃ a S', r = .inr (a, S') ∧ Q a ∧ Stand us S'
theorem Go4.bnd {α β : Type} {t : Res α} {k : α → LS → Res β} {us vs : List To} {Q : α → Prop} {R : β → Prop} (h : Go4 t us Q) (hk : ∀ a S', Q a → Stand us S' → Go4 (k a S') vs R) : Go4 (bnd t k) vs R := by
  rcases h with ⟨p, e⟩ | ⟨a, S', e, hq, hs⟩
  · exact Or.inl ⟨p, by rw [e]; rfl⟩
  · rw [e]; exact hk a S' hq hs
theorem Go4.mono {α : Type} {t : Res α} {us : List To} {Q R : α → Prop} (h : Go4 t us Q) (hk : ∀ a, Q a → R a) : Go4 t us R := h.imp id fun ⟨a, S', e, hq, hs⟩ => ⟨a, S', e, hk a hq, hs⟩
theorem Go4.ret {α : Type} {a : α} {S : LS} {us : List To} {Q : α → Prop} (hq : Q a) (hs : Stand us S) : Go4 (.inr (a, S)) us Q := Or.inr ⟨a, S, rfl, hq, hs⟩
section
variable {us : List To} {S : LS} {t : To}
theorem take_4 (h : Stand (t :: us) S) : Go4 (takeP S) us fun _ => True := by
  obtain ⟨_, S', h2, h3⟩ := h
  exact Or.inr ⟨(), S', by rw [takeP, h2], trivial, h3⟩
theorem want_4 {m : ByteArray} (hm : t.isB m = true) (h : Stand (t :: us) S) : Go4 (wantP m S) us fun _ => True := by
  rw [wantP, if_pos ((stand_is h m).trans hm)]
  exact take_4 h
theorem accept_4 {m : ByteArray} (hm : t.isB m = true) (h : Stand (t :: us) S) : Go4 (acceptP m S) us fun b => b = true := by
  rw [acceptP, if_pos ((stand_is h m).trans hm)]
  exact (take_4 h).bnd fun _ S' _ hs => Go4.ret rfl hs
theorem name_4 {s : ByteArray} (h : Stand (nmT s :: us) S) : Go4 (nameP S) us fun x => x = s := by
  have h0 := h
  obtain ⟨⟨e1, e2, e3, e4⟩, _⟩ := h0
  rw [nameP, if_pos (show S.kd = 2 from e1)]
  exact (take_4 h).bnd fun _ S' _ hs => Go4.ret e3 hs
end
theorem reject_4 {us : List To} {S : LS} {m : ByteArray} (hm : hdIs us m = false) (h : Stand us S) : acceptP m S = .inr (false, S) := by
  rw [acceptP, if_neg (by rw [stand_is h, hm]; decide)]
theorem is_no {us : List To} {S : LS} {m : ByteArray} (hm : hdIs us m = false) (h : Stand us S) : ¬ S.is m = true := by rw [stand_is h, hm]; decide
theorem is_yes {us : List To} {S : LS} {m : ByteArray} (hm : hdIs us m = true) (h : Stand us S) : S.is m = true := by rw [stand_is h, hm]

/-- A tree without its lines. -/
def flatT : Tree → Tree
  | ⟨k, tx, un, n, _, ks⟩ => ⟨k, tx, un, n, 0, ks.attach.map fun ⟨x, _⟩ => flatT x⟩
theorem flat_eq (t : Tree) : flatT t = ⟨t.kind, t.text, t.under, t.n, 0, t.kids.map flatT⟩ := by
  obtain ⟨a, b, c, d, e, ks⟩ := t
  rw [flatT]
  simp
abbrev Like (t a : Tree) : Prop := flatT a = flatT t
abbrev Likes (l m : List Tree) : Prop := m.map flatT = l.map flatT
theorem flat_bare {t : Tree} {k : Nat} (hx : Wx t) (hk : t.kind = k) (h0 : (nameK k || k == 19 || k == 18 || k == 2) = false) {ln : Nat} {ks : List Tree} (h : Likes t.kids ks) : Like t (nd k ln ks) := by
  have hT := hx.here.1
  rw [hk] at hT
  simp only [Bool.or_eq_false_iff, beq_eq_false_iff_ne] at h0
  show flatT _ = flatT t
  rw [flat_eq, flat_eq t, hk, hT.nt h0.1.1.1 h0.1.1.2, hT.nn h0.1.2]
  rcases hT.un with e | e
  · rw [e, ← h]; rfl
  · exact absurd e.1 h0.2
theorem flat_named {t : Tree} {k : Nat} (hx : Wx t) (hk : t.kind = k) (h0 : (k == 18 || k == 2) = false) {ln : Nat} {ks : List Tree} (h : Likes t.kids ks) : Like t (ndT k t.text ln ks) := by
  have hT := hx.here.1
  rw [hk] at hT
  simp only [Bool.or_eq_false_iff, beq_eq_false_iff_ne] at h0
  show flatT _ = flatT t
  rw [flat_eq, flat_eq t, hk, hT.nn h0.1]
  rcases hT.un with e | e
  · rw [e, ← h]; rfl
  · exact absurd e.1 h0.2

/-- What stands behind a value: no sign that would go on with it. -/
def jnT (lev : Nat) (us : List To) : Nat := match signRows.find? (fun s => s.2.2 == lev && hdIs us s.1) with
  | some s => s.2.1
  | none => 0
theorem joiner_eq {us : List To} {S : LS} (h : Stand us S) (lev : Nat) : joinerP lev S = jnT lev us := by
  unfold joinerP jnT
  have e : (fun s : ByteArray × Nat × Nat => s.2.2 == lev && S.is s.1) = fun s => s.2.2 == lev && hdIs us s.1 := by funext s; rw [stand_is h]
  rw [e]
  rfl
structure Fol (l : Nat) (us : List To) : Prop where
  dot : hdIs us tDot = false
  sq : hdIs us tSquare = false
  op : hdIs us tOpen = false
  jn : ∀ lev, l ≤ lev → jnT lev us = 0
theorem Fol.up {l m : Nat} {us : List To} (h : Fol l us) (hl : l ≤ m) : Fol m us := ⟨h.dot, h.sq, h.op, fun lev hv => h.jn lev (by omega)⟩
/-- Signs that end a value. -/
theorem fol_end {l : Nat} {c : UInt8} {us : List To} (hc : c ∈ ([41, 44, 59, 61, 93] : List UInt8)) : Fol l (sg [c] :: us) := by
  have h : ∀ c ∈ ([41, 44, 59, 61, 93] : List UInt8), (sg [c]).isB tDot = false ∧ (sg [c]).isB tSquare = false ∧ (sg [c]).isB tOpen = false ∧ ∀ s ∈ signRows, (sg [c]).isB s.1 = false := by decide
  obtain ⟨h1, h2, h3, h4⟩ := h c hc
  refine ⟨h1, h2, h3, fun lev _ => ?_⟩
  unfold jnT
  rw [List.find?_eq_none.2]
  intro s hs
  show ¬ (s.2.2 == lev && (sg [c]).isB s.1) = true
  rw [h4 s hs]
  simp
theorem sign_row {k : Nat} (h1 : 31 ≤ k) (h2 : k ≤ 39) {us : List To} : jnT (signOfP k).1.2.2 (sgT (signOfP k).1.1 :: us) = k ∧ Fol ((signOfP k).1.2.2 + 1) (sgT (signOfP k).1.1 :: us) ∧ strengthP k = (signOfP k).1.2.2 := by
  have h : ∀ k ∈ [31, 32, 33, 34, 35, 36, 37, 38, 39], (sgT (signOfP k).1.1).isB tDot = false ∧ (sgT (signOfP k).1.1).isB tSquare = false ∧ (sgT (signOfP k).1.1).isB tOpen = false ∧ strengthP k = (signOfP k).1.2.2 ∧ (match signRows.find? (fun s => s.2.2 == (signOfP k).1.2.2 && (sgT (signOfP k).1.1).isB s.1) with | some s => s.2.1 | none => 0) = k ∧ ∀ s ∈ signRows, (sgT (signOfP k).1.1).isB s.1 = true → s.2.2 ≤ (signOfP k).1.2.2 := by decide
  obtain ⟨a1, a2, a3, a4, a5, a6⟩ := h k (by simp; omega)
  refine ⟨a5, ⟨a1, a2, a3, fun lev hl => ?_⟩, a4⟩
  unfold jnT
  rw [List.find?_eq_none.2]
  intro s hs e
  rw [Bool.and_eq_true] at e
  have := a6 s hs e.2
  have e1 : s.2.2 = lev := by simpa using e.1
  omega
theorem strength_le (k : Nat) : 1 ≤ strengthP k ∧ strengthP k ≤ 8 := by
  by_cases h : 31 ≤ k ∧ k ≤ 39
  · have := (sign_row h.1 h.2 (us := [])).2.2
    have h2 : ∀ k ∈ [31, 32, 33, 34, 35, 36, 37, 38, 39], 1 ≤ (signOfP k).1.2.2 ∧ (signOfP k).1.2.2 ≤ 8 := by decide
    rw [this]; exact h2 k (by simp; omega)
  · have hn : (signOfP k).2 = false := by
      unfold signOfP
      rw [List.find?_eq_none.2]
      intro s hs e
      have hk : ∀ s ∈ signRows, 31 ≤ s.2.1 ∧ s.2.1 ≤ 39 := by decide
      have := hk s hs
      have e1 : s.2.1 = k := by simpa using e
      omega
    unfold strengthP
    rw [if_neg (by rw [hn]; decide)]
    split <;> omega
theorem strength_8 {k : Nat} (h : ¬ (31 ≤ k ∧ k ≤ 41)) : strengthP k = 8 := by
  have hn : (signOfP k).2 = false := by
    unfold signOfP
    rw [List.find?_eq_none.2]
    intro s hs e
    have hk : ∀ s ∈ signRows, 31 ≤ s.2.1 ∧ s.2.1 ≤ 39 := by decide
    have := hk s hs
    have e1 : s.2.1 = k := by simpa using e
    omega
  unfold strengthP
  rw [if_neg (by rw [hn]; decide), if_neg (by omega)]
end Go.Proofs.YtndgajlidckcdaaGreatDoor

namespace Go.Proofs.YtndgajlidckcdaaGreatDoor
open Go.RowKit
set_option linter.unusedVariables false

/-- Words and signs that begin no value. -/
def badV : List ByteArray := [tShut, tSquared, tRight, tSemi, tComma, tEqual, wVar, wIf, wWhile, wReturn, wThrow, wPrint, wTry, wElse, wClass, wField, wCatch]
def okV (t : To) : Prop := (t.kd ≠ 0 ∧ t.kd ≠ 2 ∨ t.kd = 2) ∧ ∀ m ∈ badV, t.isB m = false
/-- How a value begins. -/
def Hd (ts : List To) (tx : List UInt8) (b : Bool) : Prop := ∃ h r, ts = h :: r ∧ okV h ∧ (b = true → h.isB tNot = false ∧ h.isB tMinus = false) ∧ (h.isB wFn = true → ∃ x, tx = [102, 110, 40] ++ x)
theorem Hd.app {ts us : List To} {tx ty : List UInt8} {b : Bool} (h : Hd ts tx b) : Hd (ts ++ us) (tx ++ ty) b := by
  obtain ⟨h0, r, rfl, h1, h2, h3⟩ := h
  exact ⟨h0, r ++ us, rfl, h1, h2, fun e => by obtain ⟨x, rfl⟩ := h3 e; exact ⟨x ++ ty, by rw [List.append_assoc]⟩⟩
theorem hd_sg {c : UInt8} {l : List UInt8} {us : List To} {tx : List UInt8} {b : Bool} (h : badV.all (fun m => !(sg (c :: l)).isB m) = true) (h2 : b = true → (!(sg (c :: l)).isB tNot && !(sg (c :: l)).isB tMinus) = true) (h3 : (sg (c :: l)).isB wFn = false) : Hd (sg (c :: l) :: us) tx b := by
  refine ⟨_, us, rfl, ⟨Or.inl ⟨fun e => (by cases e), fun e => (by cases e)⟩, fun m hm => ?_⟩, fun e => ?_, fun e => by rw [h3] at e; cases e⟩
  · have := List.all_eq_true.1 h m hm
    simpa using this
  · have := h2 e
    simpa using this
theorem hd_tok {t : To} {us : List To} {tx : List UInt8} {b : Bool} (h : t.kd ≠ 1) (h0 : t.kd ≠ 0) : Hd (t :: us) tx b := by
  have hb : ∀ m, t.isB m = false := fun m => by
    unfold To.isB
    rw [show (t.kd == 1) = false from beq_eq_false_iff_ne.2 h]
    rfl
  exact ⟨t, us, rfl, ⟨by omega, fun m _ => hb m⟩, fun _ => ⟨hb _, hb _⟩, fun e => by rw [hb] at e; cases e⟩
theorem hd_par {ts us : List To} {tx : List UInt8} {b : Bool} : Hd ([sg [40]] ++ ts ++ us) tx b := hd_sg (c := 40) (l := []) (by decide) (fun _ => by decide) (by decide)
theorem hd_val {f d l : Nat} {t : Tree} {b : Bool} (hb : b = true → 8 ≤ l) (h : Hd ((kN f).B d t) ((xN f).B d t).data.toList (decide (strengthP t.kind = 8))) : Hd (kVal (kN f) d l t) (xVal (xN f) d l t).data.toList b := by
  unfold kVal xVal
  have := strength_le t.kind
  split
  · exact hd_par
  · obtain ⟨h0, r, e, h1, h2, h3⟩ := h
    exact ⟨h0, r, e, h1, fun e => h2 (by have := hb e; simp; omega), h3⟩
theorem hd_bare : ∀ (f d : Nat) (t : Tree), Wx t → vK t → t.many ≤ f → Hd ((kN f).B d t) ((xN f).B d t).data.toList (decide (strengthP t.kind = 8))
  | 0, d, t, _, _, hm => by rw [many_eq] at hm; omega
  | f + 1, d, t, hx, hv, hm => by
    show Hd (kBare (kN f) d t) (xBare (xN f) d t).data.toList _
    have hh := hx.here.2
    unfold vK at hv
    by_cases h1 : 31 ≤ t.kind ∧ t.kind ≤ 39
    · obtain ⟨e, hc, _⟩ := pairSg h1.1 h1.2
      rw [hc] at hh
      obtain ⟨a, c, ek, va, _⟩ := hh
      have hs : decide (strengthP t.kind = 8) = false := by
        have h2 : ∀ k ∈ [31, 32, 33, 34, 35, 36, 37, 38, 39], decide (strengthP k = 8) = false := by decide
        exact h2 _ (by simp; omega)
      rw [hs, xBare, if_pos e, kBare, if_pos e, ki0 ek]
      simp only [bl_app, List.append_assoc]
      exact (hd_val (fun e => by cases e) (hd_bare f d a (hx.kid (by rw [ek]; simp)) va (manyKid hm (by rw [ek]; simp)))).app
    · have hk : ∀ a l, t.kids = a :: l → vK a → Hd ((kN f).B d a) ((xN f).B d a).data.toList (decide (strengthP a.kind = 8)) := fun a l ek va => hd_bare f d a (hx.kid (by rw [ek]; simp)) va (manyKid hm (by rw [ek]; simp))
      rcases (by omega : t.kind = 40 ∨ t.kind = 41 ∨ t.kind = 42 ∨ t.kind = 43 ∨ t.kind = 44 ∨ t.kind = 45 ∨ t.kind = 18 ∨ t.kind = 19 ∨ t.kind = 20 ∨ t.kind = 21 ∨ t.kind = 22 ∨ t.kind = 23 ∨ t.kind = 24 ∨ t.kind = 25 ∨ t.kind = 26 ∨ t.kind = 27 ∨ t.kind = 28 ∨ t.kind = 29 ∨ t.kind = 30) with e | e | e | e | e | e | e | e | e | e | e | e | e | e | e | e | e | e | e
      · rw [e, show kBare (kN f) d t = sg [45] :: kVal (kN f) d 7 (kid t 0) by rw [kBare, e]; rfl]
        exact hd_sg (c := 45) (l := []) (by decide) (fun e => absurd e (by decide)) (by decide)
      · rw [e, show kBare (kN f) d t = sg [33] :: kVal (kN f) d 7 (kid t 0) by rw [kBare, e]; rfl]
        exact hd_sg (c := 33) (l := []) (by decide) (fun e => absurd e (by decide)) (by decide)
      · rw [show cls t.kind = 3 by rw [e]; rfl] at hh
        obtain ⟨a, ek, va⟩ := hh
        rw [show kBare (kN f) d t = kVal (kN f) d 8 (kid t 0) ++ [sg [46], nmT t.text] by rw [kBare, e]; rfl, show xBare (xN f) d t = (xVal (xN f) d 8 (kid t 0) ++ ⟨#[46]⟩) ++ t.text by rw [xBare, e]; rfl, ki0 ek]
        simp only [bl_app, List.append_assoc]
        exact (hd_val (fun _ => by omega) (hk a _ ek va)).app
      · rw [show cls t.kind = 5 by rw [e]; rfl] at hh
        obtain ⟨a, l, ek, va, _⟩ := hh
        rw [show kBare (kN f) d t = kVal (kN f) d 8 (kid t 0) ++ ([sg [46], nmT t.text] ++ kArgs (kN f) d (t.kids.drop 1)) by rw [kBare, e, ← List.append_assoc]; rfl, show xBare (xN f) d t = ((xVal (xN f) d 8 (kid t 0) ++ ⟨#[46]⟩) ++ t.text) ++ xArgs (xN f) d (t.kids.drop 1) by rw [xBare, e]; rfl, ki0 ek]
        simp only [bl_app, List.append_assoc]
        exact (hd_val (fun _ => by omega) (hk a _ ek va)).app
      · rw [show cls t.kind = 4 by rw [e]; rfl] at hh
        obtain ⟨a, c, ek, va, _⟩ := hh
        rw [show kBare (kN f) d t = kVal (kN f) d 8 (kid t 0) ++ [sg [91]] ++ kVal (kN f) d 1 (kid t 1) ++ [sg [93]] by rw [kBare, e]; rfl, show xBare (xN f) d t = ((xVal (xN f) d 8 (kid t 0) ++ ⟨#[91]⟩) ++ xVal (xN f) d 1 (kid t 1)) ++ ⟨#[93]⟩ by rw [xBare, e]; rfl, ki0 ek]
        simp only [bl_app, List.append_assoc]
        exact (hd_val (fun _ => by omega) (hk a _ ek va)).app
      · rw [show cls t.kind = 5 by rw [e]; rfl] at hh
        obtain ⟨a, l, ek, va, _⟩ := hh
        rw [show kBare (kN f) d t = kCalled (kN f) d t ++ kArgs (kN f) d (t.kids.drop 1) by rw [kBare, e]; rfl, show xBare (xN f) d t = xCalled (xN f) d t ++ xArgs (xN f) d (t.kids.drop 1) by rw [xBare, e]; rfl]
        rw [bl_app]
        refine Hd.app ?_
        unfold kCalled xCalled
        rw [ki0 ek]
        split
        · exact hd_par
        · exact hd_val (fun _ => by omega) (hk a _ ek va)
      · rw [show kBare (kN f) d t = [nuT t.n] by rw [kBare, kSimple, e]; rfl]
        exact hd_tok (fun e => by cases e) (fun e => by cases e)
      · rw [show kBare (kN f) d t = [stT t.text] by rw [kBare, kSimple, e]; rfl]
        exact hd_tok (fun e => by cases e) (fun e => by cases e)
      · rw [show kBare (kN f) d t = [sg [116, 114, 117, 101]] by rw [kBare, kSimple, e]; rfl]
        exact hd_sg (by decide) (fun _ => by decide) (by decide)
      · rw [show kBare (kN f) d t = [sg [102, 97, 108, 115, 101]] by rw [kBare, kSimple, e]; rfl]
        exact hd_sg (by decide) (fun _ => by decide) (by decide)
      · rw [show kBare (kN f) d t = [sg [110, 105, 108]] by rw [kBare, kSimple, e]; rfl]
        exact hd_sg (by decide) (fun _ => by decide) (by decide)
      · rw [show kBare (kN f) d t = [sg [116, 104, 105, 115]] by rw [kBare, kSimple, e]; rfl]
        exact hd_sg (by decide) (fun _ => by decide) (by decide)
      · rw [show kBare (kN f) d t = [nmT t.text] by rw [kBare, kSimple, e]; rfl]
        exact hd_tok (fun e => by cases e) (fun e => by cases e)
      · rw [show kBare (kN f) d t = sg [110, 101, 119] :: nmT t.text :: kArgs (kN f) d t.kids by rw [kBare, kSimple, e]; rfl]
        exact hd_sg (by decide) (fun _ => by decide) (by decide)
      · rw [show kBare (kN f) d t = sg [115, 117, 112, 101, 114] :: sg [46] :: nmT t.text :: kArgs (kN f) d t.kids by rw [kBare, kSimple, e]; rfl]
        exact hd_sg (by decide) (fun _ => by decide) (by decide)
      · rw [show kBare (kN f) d t = sg [91] :: (kVals (kN f) d t.kids ++ [sg [93]]) by rw [kBare, kSimple, e]; rfl]
        exact hd_sg (by decide) (fun _ => by decide) (by decide)
      · rw [show kBare (kN f) d t = sg [102, 110] :: kFun (kN f) d t by rw [kBare, kSimple, e]; rfl, show xBare (xN f) d t = ⟨#[102, 110]⟩ ++ xFun (xN f) d t by rw [xBare, xSimple, e]; rfl]
        refine ⟨_, _, rfl, ⟨Or.inl ⟨fun e => (by cases e), fun e => (by cases e)⟩, by decide⟩, fun _ => by decide, fun _ => ?_⟩
        unfold xFun
        simp only [bl_app, List.append_assoc]
        exact ⟨_, rfl⟩
      · rw [show kBare (kN f) d t = [sg [105, 110, 112, 117, 116], sg [40], sg [41]] by rw [kBare, kSimple, e]; rfl]
        exact hd_sg (by decide) (fun _ => by decide) (by decide)
      · rw [show kBare (kN f) d t = sg [108, 101, 110] :: sg [40] :: (kVal (kN f) d 1 (kid t 0) ++ [sg [41]]) by rw [kBare, kSimple, e]; rfl]
        exact hd_sg (by decide) (fun _ => by decide) (by decide)
theorem hd_no {ts us : List To} {tx : List UInt8} {b : Bool} (h : Hd ts tx b) {m : ByteArray} (hm : m ∈ badV) : hdIs (ts ++ us) m = false := by
  obtain ⟨h0, r, rfl, h1, _⟩ := h
  exact h1.2 m hm
end Go.Proofs.YtndgajlidckcdaaGreatDoor

namespace Go.Proofs.YtndgajlidckcdaaGreatDoor
open Go.RowKit
set_option linter.unusedVariables false

structure VV (f : Nat) (t : Tree) : Prop where
  x : Wx t
  v : vK t
  m : t.many ≤ f
  f : f ≤ 1201
/-- What reads one deeper reads what was written. -/
structure LowB (L : Low) : Prop where
  v : ∀ {f d l : Nat} {t : Tree} {us : List To} {S : LS}, 1 ≤ l → l ≤ 9 → VV f t → Fol 1 us → Stand (kVal (kN f) d l t ++ us) S → Go4 (L.V S) us (Like t)
  n : ∀ {f d l : Nat} {t : Tree} {us : List To} {S : LS}, 7 ≤ l → l ≤ 9 → VV f t → Fol 7 us → Stand (kVal (kN f) d l t ++ us) S → Go4 (L.N S) us (Like t)
  s : ∀ {f d : Nat} {t : Tree} {us : List To} {S : LS}, Wx t → sK t → t.many ≤ f → f ≤ 1201 → hdIs us wElse = false → Stand ((kN f).S d t ++ us) S → Go4 (L.S S) us (Like t)
theorem VV.hd {f d l : Nat} {t : Tree} {b : Bool} (h : VV f t) (hb : b = true → 8 ≤ l) : Hd (kVal (kN f) d l t) (xVal (xN f) d l t).data.toList b := hd_val hb (hd_bare f d t h.x h.v h.m)
theorem VV.no {f d l : Nat} {t : Tree} (h : VV f t) {m : ByteArray} (hm : m ∈ badV) (us : List To) : hdIs (kVal (kN f) d l t ++ us) m = false := hd_no (h.hd (b := false) fun e => by cases e) hm
theorem VV.kid {f : Nat} {t k : Tree} (hx : Wx t) (hm : t.many ≤ f + 1) (hf : f + 1 ≤ 1201) (hk : k ∈ t.kids) (hv : vK k) : VV f k := ⟨hx.kid hk, hv, manyKid hm hk, by omega⟩

theorem shut_bad : tShut ∈ badV := by simp [badV]
theorem sq_bad : tSquared ∈ badV := by simp [badV]
theorem listLoop_4 {sh : UInt8} (hsh : sh = 41 ∨ sh = 93) {f d : Nat} {P : LS → Res Tree} {us : List To} : ∀ (l : List Tree) (t : Tree) (acc : List Tree) (F : Nat) (S : LS), (∀ k ∈ t :: l, ∀ vs S, (∃ c x, vs = sg [c] :: x ∧ (c = 44 ∨ c = sh)) → Stand (kVal (kN f) d 1 k ++ vs) S → Go4 (P S) vs (Like k)) → acc.length + l.length < 8 → l.length < F → Stand (kVal (kN f) d 1 t ++ (kTail (kN f) d l ++ (sg [sh] :: us))) S →
    Go4 (listLoop ⟨#[sh]⟩ P F acc S) us (fun r => Likes (acc ++ t :: l) r)
  | l, t, acc, 0, S, _, _, hF, _ => by omega
  | [], t, acc, F + 1, S, hP, ha, hF, hS => by
    rw [listLoop]
    refine Go4.bnd (us := kVal (kN f) d 1 t ++ (sg [sh] :: us)) (Q := fun _ => True) (by rw [limitP, if_neg (by have : acc.length + 0 < 8 := ha; omega)]; exact Go4.ret trivial hS) fun _ S0 _ h0 => ?_
    refine (hP t (List.mem_cons_self ..) _ S0 ⟨sh, us, rfl, Or.inr rfl⟩ h0).bnd fun a S1 hq h1 => ?_
    refine (accept_4 (m := ⟨#[sh]⟩) (by rcases hsh with rfl | rfl <;> rfl) h1).bnd fun b S2 hb h2 => ?_
    rw [if_pos hb]
    exact Go4.ret (by show List.map _ _ = List.map _ _; rw [List.map_append, List.map_append, List.map_cons, List.map_cons, show flatT a = flatT t from hq]) h2
  | t2 :: l, t, acc, F + 1, S, hP, ha, hF, hS => by
    rw [listLoop]
    rw [List.length_cons] at ha hF
    refine Go4.bnd (us := kVal (kN f) d 1 t ++ (kTail (kN f) d (t2 :: l) ++ (sg [sh] :: us))) (Q := fun _ => True) (by rw [limitP, if_neg (by omega)]; exact Go4.ret trivial hS) fun _ S0 _ h0 => ?_
    have e : kTail (kN f) d (t2 :: l) ++ (sg [sh] :: us) = sg [44] :: (kVal (kN f) d 1 t2 ++ (kTail (kN f) d l ++ (sg [sh] :: us))) := by simp [kTail]
    rw [e] at h0
    refine (hP t (List.mem_cons_self ..) _ S0 ⟨44, _, rfl, Or.inl rfl⟩ h0).bnd fun a S1 hq h1 => ?_
    rw [reject_4 (m := ⟨#[sh]⟩) (by rcases hsh with rfl | rfl <;> rfl) h1]
    show Go4 (bnd (wantP tComma S1) _) us _
    refine (want_4 (m := tComma) rfl h1).bnd fun _ S3 _ h3 => ?_
    refine (listLoop_4 hsh l t2 (acc ++ [a]) F S3 (fun k hk => hP k (List.mem_cons_of_mem _ hk)) (by rw [List.length_append]; show acc.length + 1 + l.length < 8; omega) (by omega) h3).mono fun r hr => ?_
    show List.map _ _ = List.map _ _
    rw [show List.map flatT r = _ from hr]
    simp [show flatT a = flatT t from hq]
theorem listed_4 {sh : UInt8} (hsh : sh = 41 ∨ sh = 93) {f d : Nat} {P : LS → Res Tree} {us : List To} {l : List Tree} {S : LS} (hP : ∀ k ∈ l, ∀ vs S, (∃ c x, vs = sg [c] :: x ∧ (c = 44 ∨ c = sh)) → Stand (kVal (kN f) d 1 k ++ vs) S → Go4 (P S) vs (Like k)) (hv : ∀ k ∈ l, VV f k) (hl : l.length ≤ 8) (hS : Stand (kVals (kN f) d l ++ (sg [sh] :: us)) S) : Go4 (listedP ⟨#[sh]⟩ P S) us (Likes l) := by
  unfold listedP
  cases l with
  | nil =>
    refine (accept_4 (m := ⟨#[sh]⟩) (by rcases hsh with rfl | rfl <;> rfl) hS).bnd fun b S2 hb h2 => ?_
    rw [if_pos hb]
    exact Go4.ret rfl h2
  | cons t l =>
    have e : kVals (kN f) d (t :: l) ++ (sg [sh] :: us) = kVal (kN f) d 1 t ++ (kTail (kN f) d l ++ (sg [sh] :: us)) := by simp [kVals]
    rw [e] at hS
    rw [reject_4 (m := ⟨#[sh]⟩) ((hv t (List.mem_cons_self ..)).no (m := ⟨#[sh]⟩) (hsh.elim (fun e => by rw [e]; exact shut_bad) fun e => by rw [e]; exact sq_bad) _) hS]
    show Go4 (listLoop ⟨#[sh]⟩ P 9 [] S) us _
    rw [List.length_cons] at hl
    exact listLoop_4 hsh l t [] 9 S hP (by show 0 + l.length < 8; omega) (by omega) hS
theorem fol_c {l : Nat} {vs : List To} {sh : UInt8} (hsh : sh = 41 ∨ sh = 93) (h : ∃ c x, vs = sg [c] :: x ∧ (c = 44 ∨ c = sh)) : Fol l vs := by
  obtain ⟨c, x, rfl, rfl | rfl⟩ := h
  · exact fol_end (by decide)
  · rcases hsh with rfl | rfl <;> exact fol_end (by decide)
theorem args_4 {L : Low} (hL : LowB L) {sh : UInt8} (hsh : sh = 41 ∨ sh = 93) {f d : Nat} {us : List To} {l : List Tree} {S : LS} (hv : ∀ k ∈ l, VV f k) (hl : l.length ≤ 8) (hS : Stand (kVals (kN f) d l ++ (sg [sh] :: us)) S) : Go4 (listedP ⟨#[sh]⟩ L.V S) us (Likes l) :=
  listed_4 hsh (fun k hk vs S hvs h => hL.v (by omega) (by omega) (hv k hk) (fol_c hsh hvs) h) hv hl hS
theorem inPar_4 {L : Low} (hL : LowB L) {f d l : Nat} {t : Tree} {us : List To} {S : LS} (h1 : 1 ≤ l) (h9 : l ≤ 9) (hv : VV f t) (hS : Stand (sg [40] :: (kVal (kN f) d l t ++ (sg [41] :: us))) S) : Go4 (inParP L S) us (Like t) := by
  unfold inParP
  refine (want_4 (m := tOpen) rfl hS).bnd fun _ S1 _ h1' => ?_
  refine (hL.v h1 h9 hv (fol_end (by decide)) h1').bnd fun a S2 hq h2 => ?_
  exact (want_4 (m := tShut) rfl h2).bnd fun _ S3 _ h3 => Go4.ret hq h3
theorem block_4 {L : Low} (hL : LowB L) {f d F : Nat} {us : List To} : ∀ (l : List Tree) (acc : List Tree) (S : LS), (∀ k ∈ l, Wx k ∧ sK k ∧ k.many ≤ f) → f ≤ 1201 → (∀ k ∈ l, ∀ x, hdIs ((kN f).S d k ++ x) tRight = false ∧ hdIs ((kN f).S d k ++ x) wElse = false) → l.length < F → Stand (kLines (kN f) d l ++ (sg [125] :: us)) S → Go4 (untilP tRight L.S F acc S) us (Likes (acc ++ l)) := by
  induction F with
  | zero => intro l acc S _ _ _ hF _; omega
  | succ F ih =>
    intro l acc S hk hf hh hF hS
    rw [untilP]
    cases l with
    | nil =>
      refine (accept_4 (m := tRight) rfl hS).bnd fun b S2 hb h2 => ?_
      rw [if_pos hb]
      exact Go4.ret (by rw [List.append_nil]) h2
    | cons t l =>
      have e : kLines (kN f) d (t :: l) ++ (sg [125] :: us) = (kN f).S d t ++ (kLines (kN f) d l ++ (sg [125] :: us)) := by simp [kLines]
      rw [e] at hS
      rw [reject_4 (m := tRight) (hh t (List.mem_cons_self ..) _).1 hS]
      show Go4 (bnd (L.S S) _) us _
      have ht := hk t (List.mem_cons_self ..)
      have he : hdIs (kLines (kN f) d l ++ (sg [125] :: us)) wElse = false := by
        cases l with
        | nil => rfl
        | cons t2 l =>
          have e : kLines (kN f) d (t2 :: l) ++ (sg [125] :: us) = (kN f).S d t2 ++ (kLines (kN f) d l ++ (sg [125] :: us)) := by simp [kLines]
          rw [e]; exact (hh t2 (by simp) _).2
      refine (hL.s ht.1 ht.2.1 ht.2.2 hf he hS).bnd fun a S1 hq h1 => ?_
      rw [List.length_cons] at hF
      refine (ih l (acc ++ [a]) S1 (fun k h => hk k (List.mem_cons_of_mem _ h)) hf (fun k h => hh k (List.mem_cons_of_mem _ h)) (by omega) h1).mono fun r hr => ?_
      show List.map _ _ = List.map _ _
      rw [show List.map flatT r = _ from hr]
      simp [show flatT a = flatT t from hq]
end Go.Proofs.YtndgajlidckcdaaGreatDoor

namespace Go.Proofs.YtndgajlidckcdaaGreatDoor
open Go.RowKit
set_option linter.unusedVariables false

theorem len_many (t : Tree) : t.kids.length < t.many := by
  rw [many_eq]
  have : ∀ l : List Tree, l.length ≤ (l.map Tree.many).sum := by
    intro l
    induction l with
    | nil => exact Nat.le_refl _
    | cons a l ih => rw [List.map_cons, List.sum_cons, List.length_cons]; have := many_eq a; omega
  have := this t.kids
  omega
/-- How a statement begins. -/
def Sd (ts : List To) (d : Nat) (s : Bool) : Prop := ∃ h r, ts = h :: r ∧ h.isB tRight = false ∧ h.isB wElse = false ∧ h.kd ≠ 0 ∧ (s = true → h.isB wClass = false ∧ (d = 0 → h.isB wFn = false))
theorem sd_sg {c : UInt8} {l : List UInt8} {us : List To} {d : Nat} {s : Bool} (h : (!(sg (c :: l)).isB tRight && !(sg (c :: l)).isB wElse) = true) (h2 : s = true → (!(sg (c :: l)).isB wClass && !(sg (c :: l)).isB wFn) = true) : Sd (sg (c :: l) :: us) d s := by
  simp only [Bool.and_eq_true, Bool.not_eq_true'] at h h2
  exact ⟨_, us, rfl, h.1, h.2, fun e => (by cases e), fun e => ⟨(h2 e).1, fun _ => (h2 e).2⟩⟩
theorem sd_first {f d : Nat} {t c : Tree} {us : List To} {s : Bool} (ek : kid t 0 = c) (hc : VV f c) : Sd (kFirst (xN f) (kN f) d t ++ us) d s := by
  unfold kFirst fnFirst
  rw [ek]
  obtain ⟨h0, r, e, h1, h2, h3⟩ := hc.hd (d := d) (l := 1) (b := false) (fun e => by cases e)
  have b1 : tRight ∈ badV := by simp [badV]
  have b2 : wElse ∈ badV := by simp [badV]
  have b3 : wClass ∈ badV := by simp [badV]
  split
  · exact sd_sg (c := 40) (l := []) (by decide) (fun _ => by decide)
  · rename_i hn
    rw [e]
    refine ⟨h0, r ++ us, rfl, h1.2 _ b1, h1.2 _ b2, by rcases h1.1 with q | q <;> omega, fun _ => ⟨h1.2 _ b3, fun hd => ?_⟩⟩
    cases hw : h0.isB wFn with
    | false => rfl
    | true =>
      obtain ⟨x, hx⟩ := h3 hw
      exfalso
      apply hn
      rw [hx, hd]
      rfl
theorem sd_stm {f d : Nat} {t : Tree} (hx : Wx t) (hs : sK t ∨ t.kind = 2 ∨ t.kind = 3 ∨ t.kind = 4 ∨ t.kind = 5) (hm : t.many ≤ f) (hf : f ≤ 1201) (us : List To) : Sd ((kN f).S d t ++ us) d (decide (8 ≤ t.kind ∧ t.kind ≤ 17 ∧ t.kind ≠ 15)) := by
  cases f with
  | zero => rw [many_eq] at hm; omega
  | succ f =>
    show Sd (kStm (xN f) (kN f) d t ++ us) d _
    have hh := hx.here.2
    unfold sK at hs
    have no : ∀ k, t.kind = k → ¬ (8 ≤ k ∧ k ≤ 17 ∧ k ≠ 15) → decide (8 ≤ t.kind ∧ t.kind ≤ 17 ∧ t.kind ≠ 15) = true → False := fun k e h q => h (by have := of_decide_eq_true q; rw [← e]; exact this)
    rcases (by omega : t.kind = 2 ∨ t.kind = 3 ∨ t.kind = 4 ∨ t.kind = 5 ∨ t.kind = 8 ∨ t.kind = 9 ∨ t.kind = 10 ∨ t.kind = 11 ∨ t.kind = 12 ∨ t.kind = 13 ∨ t.kind = 14 ∨ t.kind = 16 ∨ t.kind = 17) with e | e | e | e | e | e | e | e | e | e | e | e | e
    · rw [show kStm (xN f) (kN f) d t = sg [99, 108, 97, 115, 115] :: nmT t.text :: (kUnder t ++ kBraces (kN f) d t.kids) by rw [kStm, e]; rfl]
      exact sd_sg (by decide) (fun q => (no 2 e (by decide) q).elim)
    · rw [show kStm (xN f) (kN f) d t = sg [102, 105, 101, 108, 100] :: nmT t.text :: [sg [59]] by rw [kStm, e]; rfl]
      exact sd_sg (by decide) (fun q => (no 3 e (by decide) q).elim)
    · rw [show kStm (xN f) (kN f) d t = nmT t.text :: kFun (kN f) d t by rw [kStm, e]; rfl]
      exact ⟨_, _, rfl, rfl, rfl, fun e => (by cases e), fun _ => ⟨rfl, fun _ => rfl⟩⟩
    · rw [show kStm (xN f) (kN f) d t = sg [102, 110] :: nmT t.text :: kFun (kN f) d t by rw [kStm, e]; rfl]
      exact sd_sg (by decide) (fun q => (no 5 e (by decide) q).elim)
    · rw [show kStm (xN f) (kN f) d t = sg [118, 97, 114] :: nmT t.text :: sg [61] :: (kVal (kN f) d 1 (kid t 0) ++ [sg [59]]) by rw [kStm, e]; rfl]
      exact sd_sg (by decide) (fun _ => by decide)
    · rw [show cls t.kind = 16 by rw [e]; rfl] at hh
      obtain ⟨a, b, ek, va, _⟩ := hh
      rw [show kStm (xN f) (kN f) d t = kFirst (xN f) (kN f) d t ++ [sg [61]] ++ kVal (kN f) d 1 (kid t 1) ++ [sg [59]] by rw [kStm, e]; rfl, List.append_assoc, List.append_assoc, List.append_assoc]
      exact sd_first (ki0 ek) (VV.kid hx hm hf (by rw [ek]; simp) va)
    · have e2 : ∃ r, kStm (xN f) (kN f) d t = sg [105, 102] :: r := by
        rw [show kStm (xN f) (kN f) d t = kIf (kN f) d t by rw [kStm, e]; rfl]
        unfold kIf
        split
        · exact ⟨_, rfl⟩
        · exact ⟨_, rfl⟩
      obtain ⟨r, e2⟩ := e2
      rw [e2]
      exact sd_sg (by decide) (fun _ => by decide)
    · rw [show kStm (xN f) (kN f) d t = sg [119, 104, 105, 108, 101] :: kGuard (kN f) d t by rw [kStm, e]; rfl]
      exact sd_sg (by decide) (fun _ => by decide)
    · have e2 : ∃ r, kStm (xN f) (kN f) d t = sg [114, 101, 116, 117, 114, 110] :: r := by
        rw [show kStm (xN f) (kN f) d t = kRet (kN f) d t by rw [kStm, e]; rfl]
        unfold kRet
        split
        · exact ⟨_, rfl⟩
        · exact ⟨_, rfl⟩
      obtain ⟨r, e2⟩ := e2
      rw [e2]
      exact sd_sg (by decide) (fun _ => by decide)
    · rw [show kStm (xN f) (kN f) d t = sg [116, 104, 114, 111, 119] :: (kVal (kN f) d 1 (kid t 0) ++ [sg [59]]) by rw [kStm, e]; rfl]
      exact sd_sg (by decide) (fun _ => by decide)
    · rw [show kStm (xN f) (kN f) d t = sg [116, 114, 121] :: (kBraces (kN f) d (kid t 0).kids ++ kCatch (kN f) d (kid t 1)) by rw [kStm, e]; rfl]
      exact sd_sg (by decide) (fun _ => by decide)
    · rw [show kStm (xN f) (kN f) d t = sg [112, 114, 105, 110, 116] :: sg [40] :: (kVal (kN f) d 1 (kid t 0) ++ [sg [41], sg [59]]) by rw [kStm, e]; rfl]
      exact sd_sg (by decide) (fun _ => by decide)
    · rw [show cls t.kind = 3 by rw [e]; rfl] at hh
      obtain ⟨a, ek, va⟩ := hh
      rw [show kStm (xN f) (kN f) d t = kFirst (xN f) (kN f) d t ++ [sg [59]] by rw [kStm, e]; rfl, List.append_assoc]
      exact sd_first (ki0 ek) (VV.kid hx hm hf (by rw [ek]; simp) va)
theorem sd_no {ts us : List To} {d : Nat} {s : Bool} (h : Sd (ts ++ us) d s) : hdIs (ts ++ us) tRight = false ∧ hdIs (ts ++ us) wElse = false := by
  obtain ⟨h0, r, e, h1, h2, _⟩ := h
  rw [e]
  exact ⟨h1, h2⟩
theorem kval_24 {f d : Nat} {t : Tree} (hk : t.kind = 24) (hm : t.many ≤ f) : kVal (kN f) d 1 t = [nmT t.text] := by
  cases f with
  | zero => rw [many_eq] at hm; omega
  | succ f =>
    unfold kVal
    have := strength_le t.kind
    rw [if_neg (by omega)]
    show kBare (kN f) d t = _
    rw [kBare, kSimple, hk]
    rfl
theorem param_4 {f d : Nat} {t : Tree} {us : List To} {S : LS} (hx : Wx t) (hk : t.kind = 24) (hm : t.many ≤ f) (hS : Stand (kVal (kN f) d 1 t ++ us) S) : Go4 (paramP S) us (Like t) := by
  rw [kval_24 hk hm] at hS
  have hh := hx.here.2
  rw [show cls t.kind = 0 by rw [hk]; rfl] at hh
  have hh : t.kids = [] := hh
  refine (name_4 (s := t.text) hS).bnd fun s S1 hs h1 => Go4.ret ?_ h1
  subst hs
  exact flat_named hx hk rfl (by rw [hh])
theorem params_4 {f d : Nat} {p : Tree} {us : List To} {S : LS} (hx : Wx p) (hk : p.kind = 6) (hm : p.many ≤ f) (hf : f ≤ 1201) (hS : Stand (sg [40] :: (kVals (kN f) d p.kids ++ (sg [41] :: us))) S) : Go4 (paramsP S) us (Like p) := by
  have hh := hx.here.2
  rw [show cls p.kind = 9 by rw [hk]; rfl] at hh
  have hv : ∀ k ∈ p.kids, VV f k := fun k h => ⟨hx.kid h, by have := hh.2 k h; unfold vK; omega, by have := manyKid (f := f) (by omega) h; omega, hf⟩
  unfold paramsP
  refine (want_4 (m := tOpen) rfl hS).bnd fun _ S1 _ h1 => ?_
  refine (listed_4 (sh := 41) (Or.inl rfl) (fun k h vs S _ hS => param_4 (hx.kid h) (hh.2 k h) (hv k h).m hS) hv hh.1 h1).bnd fun ks S2 hq h2 => Go4.ret ?_ h2
  exact flat_bare (k := 6) hx hk rfl hq
theorem blockP_4 {L : Low} (hL : LowB L) {f d : Nat} {b : Tree} {us : List To} {S : LS} (hx : Wx b) (hk : b.kind = 7) (hm : b.many ≤ f + 1) (hf : f + 1 ≤ 1201) (hS : Stand (kBraces (kN f) d b.kids ++ us) S) : Go4 (blockP L S) us (Like b) := by
  have hh := hx.here.2
  rw [show cls b.kind = 10 by rw [hk]; rfl] at hh
  have e : kBraces (kN f) d b.kids ++ us = sg [123] :: (kLines (kN f) (d + 1) b.kids ++ (sg [125] :: us)) := by simp [kBraces]
  rw [e] at hS
  unfold blockP
  refine (want_4 (m := tLeft) rfl hS).bnd fun _ S1 _ h1 => ?_
  have hl := len_many b
  refine (block_4 hL b.kids [] S1 (fun k h => ⟨hx.kid h, hh k h, manyKid hm h⟩) (by omega) (fun k h x => sd_no (sd_stm (hx.kid h) (Or.inl (hh k h)) (manyKid hm h) (by omega) x)) (by omega) h1).bnd fun ks S2 hq h2 => Go4.ret ?_ h2
  exact flat_bare (k := 7) hx hk rfl hq
theorem body_4 {L : Low} (hL : LowB L) {f d : Nat} {t p b : Tree} {us : List To} {S : LS} (hx : Wx t) (ek : t.kids = [p, b]) (hp : p.kind = 6) (hb : b.kind = 7) (hm : t.many ≤ f + 1) (hf : f + 1 ≤ 1201) (hS : Stand (kFun (kN f) d t ++ us) S) : Go4 (bodyP L S) us (fun x => Like p x.1 ∧ Like b x.2) := by
  have e : kFun (kN f) d t ++ us = sg [40] :: (kVals (kN f) d p.kids ++ (sg [41] :: (kBraces (kN f) d b.kids ++ us))) := by simp [kFun, ki0 ek, ki1 ek]
  rw [e] at hS
  have mp : p.many ≤ f := manyKid hm (by rw [ek]; simp)
  have mb : b.many ≤ f := manyKid hm (by rw [ek]; simp)
  unfold bodyP
  refine (params_4 (hx.kid (by rw [ek]; simp)) hp mp (by omega) hS).bnd fun x S1 hq h1 => ?_
  exact (blockP_4 hL (hx.kid (by rw [ek]; simp)) hb (by omega) hf h1).bnd fun y S2 hr h2 => Go4.ret ⟨hq, hr⟩ h2
end Go.Proofs.YtndgajlidckcdaaGreatDoor
