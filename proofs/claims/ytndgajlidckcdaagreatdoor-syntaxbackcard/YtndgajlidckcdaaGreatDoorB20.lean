/-
  A program's text is read again: tokens as trees.
  A program's text is read again: tokens as trees.
  A program's text is read again: tokens as trees.
-/
import Derived.Test.YtndgajlidckcdaaGreatDoorB19
namespace Go.Proofs.YtndgajlidckcdaaGreatDoor
open Go.RowKit
set_option linter.unusedVariables false

def constT (us : List To) : Nat := if hdIs us wTrue = true then 20 else if hdIs us wFalse = true then 21 else if hdIs us wNil = true then 22 else if hdIs us wThis = true then 23 else 0
theorem const_eq {us : List To} {S : LS} (h : Stand us S) : constP S = constT us := by
  unfold constP constT
  simp only [stand_is h]
theorem Go4.run {α β : Type} {C : Res β → Prop} {t : Res α} {k : α → LS → Res β} {us : List To} {Q : α → Prop} (h : Go4 t us Q) (h4 : ∀ p, C (.inl (4, p))) (hk : ∀ a S', Q a → Stand us S' → C (k a S')) : C (Go.Proofs.YtndgajlidckcdaaGreatDoor.bnd t k) := by
  rcases h with ⟨p, e⟩ | ⟨a, S', e, hq, hs⟩
  · rw [e]; exact h4 p
  · rw [e]; exact hk a S' hq hs
theorem leaf_4 {k : Nat} {tok : To} {t : Tree} {us : List To} {S : LS} (hS : Stand (tok :: us) S) (hx : Wx t) (hk : t.kind = k) (hc : cls k = 0) (h2 : k ≠ 2) (e1 : tok.tx = t.text) (e2 : tok.nn = t.n) : Go4 (leafP k S) us (Like t) := by
  have hh := hx.here.2
  rw [hk, hc] at hh
  have hh : t.kids = [] := hh
  have hu : t.under = noText := by
    rcases hx.here.1.un with e | e
    · exact e
    · exact absurd (hk.symm.trans e.1) h2
  have h0 := hS
  obtain ⟨⟨_, _, a3, a4⟩, _⟩ := h0
  refine (take_4 hS).bnd fun _ S1 _ h1 => Go4.ret ?_ h1
  show flatT _ = flatT t
  rw [flat_eq, flat_eq t, hh, hu, hk]
  show (⟨k, S.tx, noText, S.nn, 0, []⟩ : Tree) = _
  rw [a3, a4, e1, e2]
  rfl
theorem simple_mk {L : Low} {l : List UInt8} {us : List To} {S : LS} (hS : Stand (sg l :: us) S) (hc : constT (sg l :: us) = 0) : simpleP L S = markedP L S := by
  have h0 := hS
  obtain ⟨⟨a1, _⟩, _⟩ := h0
  have a1 : S.kd = 1 := a1
  rw [simpleP, if_neg (by omega), if_neg (by omega), if_neg (by omega), if_pos ((const_eq hS).trans hc)]
theorem simple_const {L : Low} {l : List UInt8} {us : List To} {S : LS} {k : Nat} (hS : Stand (sg l :: us) S) (hc : constT (sg l :: us) = k) (hk : k ≠ 0) : simpleP L S = leafP k S := by
  have h0 := hS
  obtain ⟨⟨a1, _⟩, _⟩ := h0
  have a1 : S.kd = 1 := a1
  have e := (const_eq hS).trans hc
  rw [simpleP, if_neg (by omega), if_neg (by omega), if_neg (by omega), if_neg (by omega), e]
theorem par_4 {L : Low} (hL : LowB L) {f d : Nat} {t : Tree} {us : List To} {S : LS} (hv : VV f t) (hS : Stand ([sg [40]] ++ (kN f).B d t ++ [sg [41]] ++ us) S) : Go4 (simpleP L S) us (Like t) := by
  have e : [sg [40]] ++ (kN f).B d t ++ [sg [41]] ++ us = sg [40] :: (kVal (kN f) d 1 t ++ (sg [41] :: us)) := by
    have := strength_le t.kind
    rw [kVal, if_neg (by omega)]
    simp
  rw [e] at hS
  rw [simple_mk hS rfl, markedP, if_pos (is_yes rfl hS)]
  exact inPar_4 hL (by omega) (by omega) hv hS
theorem named_4 {L : Low} (hL : LowB L) {f d k ln : Nat} {t : Tree} {us : List To} {S : LS} (hx : Wx t) (hk : t.kind = k) (hc : cls k = 1) (h0 : (k == 18 || k == 2) = false) (hm : t.many ≤ f + 1) (hf : f + 1 ≤ 1201) (hS : Stand (nmT t.text :: (kArgs (kN f) d t.kids ++ us)) S) : Go4 (namedP L k ln S) us (Like t) := by
  have hh := hx.here.2
  rw [hk, hc] at hh
  have e : kArgs (kN f) d t.kids ++ us = sg [40] :: (kVals (kN f) d t.kids ++ (sg [41] :: us)) := by simp [kArgs]
  rw [e] at hS
  unfold namedP
  refine (name_4 hS).bnd fun s S1 hs h1 => ?_
  subst hs
  refine (want_4 (m := tOpen) rfl h1).bnd fun _ S2 _ h2 => ?_
  refine (args_4 hL (sh := 41) (Or.inl rfl) (fun k h => VV.kid hx hm hf h (hh.2 k h)) hh.1 h2).bnd fun us' S3 hq h3 => Go4.ret ?_ h3
  exact flat_named hx hk h0 hq
theorem simple_4 {L : Low} (hL : LowB L) {f d : Nat} {t : Tree} {us : List To} {S : LS} (hv : VV f t) (hk : t.kind ≤ 30) (hS : Stand ((kN f).B d t ++ us) S) : Go4 (simpleP L S) us (Like t) := by
  obtain ⟨hx, v, hm, hf⟩ := hv
  cases f with
  | zero => rw [many_eq] at hm; omega
  | succ f =>
  have hS : Stand (kBare (kN f) d t ++ us) S := hS
  have hh := hx.here.2
  have hT := hx.here.1
  unfold vK at v
  rcases (by omega : t.kind = 18 ∨ t.kind = 19 ∨ t.kind = 20 ∨ t.kind = 21 ∨ t.kind = 22 ∨ t.kind = 23 ∨ t.kind = 24 ∨ t.kind = 25 ∨ t.kind = 26 ∨ t.kind = 27 ∨ t.kind = 28 ∨ t.kind = 29 ∨ t.kind = 30) with e | e | e | e | e | e | e | e | e | e | e | e | e
  · rw [show kBare (kN f) d t = [nuT t.n] by rw [kBare, kSimple, e]; rfl] at hS
    have h0 := hS
    obtain ⟨⟨a1, _⟩, _⟩ := h0
    have a1 : S.kd = 3 := a1
    rw [simpleP, if_neg (by omega), if_pos a1]
    exact leaf_4 hS hx e rfl (by decide) (hT.nt (by rw [e]; rfl) (by omega)).symm rfl
  · rw [show kBare (kN f) d t = [stT t.text] by rw [kBare, kSimple, e]; rfl] at hS
    have h0 := hS
    obtain ⟨⟨a1, _⟩, _⟩ := h0
    have a1 : S.kd = 4 := a1
    rw [simpleP, if_neg (by omega), if_neg (by omega), if_pos a1]
    exact leaf_4 hS hx e rfl (by decide) rfl (hT.nn (by omega)).symm
  · rw [show kBare (kN f) d t = [sg [116, 114, 117, 101]] by rw [kBare, kSimple, e]; rfl] at hS
    rw [simple_const (k := 20) hS rfl (by decide)]
    exact leaf_4 hS hx e rfl (by decide) (hT.nt (by rw [e]; rfl) (by omega)).symm (hT.nn (by omega)).symm
  · rw [show kBare (kN f) d t = [sg [102, 97, 108, 115, 101]] by rw [kBare, kSimple, e]; rfl] at hS
    rw [simple_const (k := 21) hS rfl (by decide)]
    exact leaf_4 hS hx e rfl (by decide) (hT.nt (by rw [e]; rfl) (by omega)).symm (hT.nn (by omega)).symm
  · rw [show kBare (kN f) d t = [sg [110, 105, 108]] by rw [kBare, kSimple, e]; rfl] at hS
    rw [simple_const (k := 22) hS rfl (by decide)]
    exact leaf_4 hS hx e rfl (by decide) (hT.nt (by rw [e]; rfl) (by omega)).symm (hT.nn (by omega)).symm
  · rw [show kBare (kN f) d t = [sg [116, 104, 105, 115]] by rw [kBare, kSimple, e]; rfl] at hS
    rw [simple_const (k := 23) hS rfl (by decide)]
    exact leaf_4 hS hx e rfl (by decide) (hT.nt (by rw [e]; rfl) (by omega)).symm (hT.nn (by omega)).symm
  · rw [show kBare (kN f) d t = [nmT t.text] by rw [kBare, kSimple, e]; rfl] at hS
    have h0 := hS
    obtain ⟨⟨a1, _⟩, _⟩ := h0
    have a1 : S.kd = 2 := a1
    rw [simpleP, if_pos a1]
    exact leaf_4 hS hx e rfl (by decide) rfl (hT.nn (by omega)).symm
  · rw [show kBare (kN f) d t = sg [110, 101, 119] :: nmT t.text :: kArgs (kN f) d t.kids by rw [kBare, kSimple, e]; rfl] at hS
    rw [simple_mk hS rfl, markedP, if_neg (is_no rfl hS), if_neg (is_no rfl hS), if_neg (is_no rfl hS), if_pos (is_yes rfl hS)]
    exact (take_4 hS).bnd fun _ S1 _ h1 => named_4 hL hx e rfl rfl hm hf h1
  · rw [show kBare (kN f) d t = sg [115, 117, 112, 101, 114] :: sg [46] :: nmT t.text :: kArgs (kN f) d t.kids by rw [kBare, kSimple, e]; rfl] at hS
    rw [simple_mk hS rfl, markedP, if_neg (is_no rfl hS), if_neg (is_no rfl hS), if_neg (is_no rfl hS), if_neg (is_no rfl hS), if_pos (is_yes rfl hS)]
    exact (take_4 hS).bnd fun _ S1 _ h1 => (want_4 (m := tDot) rfl h1).bnd fun _ S2 _ h2 => named_4 hL hx e rfl rfl hm hf h2
  · rw [show kBare (kN f) d t ++ us = sg [91] :: (kVals (kN f) d t.kids ++ (sg [93] :: us)) by rw [kBare, kSimple, e]; simp [signOfP, signRows]] at hS
    rw [show cls t.kind = 1 by rw [e]; rfl] at hh
    rw [simple_mk hS rfl, markedP, if_neg (is_no rfl hS), if_pos (is_yes rfl hS)]
    refine (take_4 hS).bnd fun _ S1 _ h1 => ?_
    refine (args_4 hL (sh := 93) (Or.inr rfl) (fun k h => VV.kid hx hm hf h (hh.2 k h)) hh.1 h1).bnd fun us' S3 hq h3 => Go4.ret ?_ h3
    exact flat_bare hx e rfl hq
  · rw [show kBare (kN f) d t = sg [102, 110] :: kFun (kN f) d t by rw [kBare, kSimple, e]; rfl] at hS
    rw [show cls t.kind = 2 by rw [e]; rfl] at hh
    obtain ⟨p, b, ek, hp, hb⟩ := hh
    rw [simple_mk hS rfl, markedP, if_neg (is_no rfl hS), if_neg (is_no rfl hS), if_pos (is_yes rfl hS)]
    refine (take_4 hS).bnd fun _ S1 _ h1 => ?_
    refine (body_4 hL hx ek hp hb hm hf h1).bnd fun x S2 hq h2 => Go4.ret ?_ h2
    exact flat_bare hx e rfl (by rw [ek]; show List.map flatT [x.1, x.2] = _; simp [show flatT x.1 = flatT p from hq.1, show flatT x.2 = flatT b from hq.2])
  · rw [show kBare (kN f) d t = [sg [105, 110, 112, 117, 116], sg [40], sg [41]] by rw [kBare, kSimple, e]; rfl] at hS
    rw [show cls t.kind = 0 by rw [e]; rfl] at hh
    have hh : t.kids = [] := hh
    rw [simple_mk hS rfl, markedP, if_neg (is_no rfl hS), if_neg (is_no rfl hS), if_neg (is_no rfl hS), if_neg (is_no rfl hS), if_neg (is_no rfl hS), if_pos (is_yes rfl hS)]
    exact (take_4 hS).bnd fun _ S1 _ h1 => (want_4 (m := tOpen) rfl h1).bnd fun _ S2 _ h2 => (want_4 (m := tShut) rfl h2).bnd fun _ S3 _ h3 => Go4.ret (flat_bare hx e rfl (by rw [hh])) h3
  · rw [show kBare (kN f) d t ++ us = sg [108, 101, 110] :: sg [40] :: (kVal (kN f) d 1 (kid t 0) ++ (sg [41] :: us)) by rw [kBare, kSimple, e]; simp [signOfP, signRows]] at hS
    rw [show cls t.kind = 3 by rw [e]; rfl] at hh
    obtain ⟨a, ek, va⟩ := hh
    rw [ki0 ek] at hS
    rw [simple_mk hS rfl, markedP, if_neg (is_no rfl hS), if_neg (is_no rfl hS), if_neg (is_no rfl hS), if_neg (is_no rfl hS), if_neg (is_no rfl hS), if_neg (is_no rfl hS), if_pos (is_yes rfl hS)]
    refine (take_4 hS).bnd fun _ S1 _ h1 => ?_
    refine (inPar_4 hL (by omega) (by omega) (VV.kid hx hm hf (by rw [ek]; simp) va) h1).bnd fun x S2 hq h2 => Go4.ret ?_ h2
    exact flat_bare hx e rfl (by rw [ek]; show List.map flatT [x] = _; simp [show flatT x = flatT a from hq])
/-- What stands behind a value is asked of the loop that is left. -/
def Chn (L : Low) (t : Tree) (us : List To) (F : Nat) (r : Res Tree) : Prop := (∃ p, r = .inl (4, p)) ∨ ∃ a S', Like t a ∧ Stand us S' ∧ r = sufLoop L F a S'
def sufF (L : Low) (F : Nat) (S : LS) : Res Tree := bnd (simpleP L S) fun t S1 => sufLoop L F t S1
theorem suf_chain {L : Low} (hL : LowB L) : ∀ (t : Tree) (f d l : Nat) (us : List To), VV f t → 8 ≤ l → l ≤ 9 → (l = 8 → t.kind = 42 → hdIs us tOpen = false) → ∃ k, k ≤ t.many ∧ ∀ S F, k ≤ F → Stand (kVal (kN f) d l t ++ us) S → Chn L t us (F - k) (sufF L F S) := by
  refine tree_ind _ fun t ih f d l us hv h8 h9 hop => ?_
  have zero : (∀ S, Stand (kVal (kN f) d l t ++ us) S → Go4 (simpleP L S) us (Like t)) → ∃ k, k ≤ t.many ∧ ∀ S F, k ≤ F → Stand (kVal (kN f) d l t ++ us) S → Chn L t us (F - k) (sufF L F S) := fun h => ⟨0, Nat.zero_le _, fun S F _ hS => (h S hS).run (fun p => Or.inl ⟨p, rfl⟩) fun a S' hq hs => Or.inr ⟨a, S', hq, hs, rfl⟩⟩
  by_cases hst : strengthP t.kind < l
  · refine zero fun S hS => ?_
    rw [kVal, if_pos hst] at hS
    exact par_4 hL hv hS
  by_cases hk30 : t.kind ≤ 30
  · refine zero fun S hS => ?_
    rw [kVal, if_neg hst] at hS
    exact simple_4 hL hv hk30 hS
  have hl8 : l = 8 := by have := strength_le t.kind; omega
  obtain ⟨hx, v, hm, hf⟩ := hv
  cases f with
  | zero => rw [many_eq] at hm; omega
  | succ f =>
  have hh := hx.here.2
  have hkk : t.kind = 42 ∨ t.kind = 43 ∨ t.kind = 44 ∨ t.kind = 45 := by
    unfold vK at v
    by_cases h : t.kind ≤ 41
    · exfalso
      have h2 : ∀ k ∈ [31, 32, 33, 34, 35, 36, 37, 38, 39, 40, 41], strengthP k < 8 := by decide
      have := h2 t.kind (by simp; omega)
      omega
    · omega
  have tv : kVal (kN (f + 1)) d l t = kBare (kN f) d t := by rw [kVal, if_neg hst]; rfl
  rw [tv]
  have sub : ∀ a l0, t.kids = a :: l0 → a.many + 1 ≤ t.many := fun a l0 ek => by rw [many_eq t, ek, List.map_cons, List.sum_cons]; omega
  rcases hkk with e | e | e | e
  · rw [show cls t.kind = 3 by rw [e]; rfl] at hh
    obtain ⟨c, ek, vc⟩ := hh
    have hcv : VV f c := VV.kid hx hm hf (by rw [ek]; simp) vc
    obtain ⟨k, hk, hK⟩ := ih c (by rw [ek]; simp) f d 8 (sg [46] :: nmT t.text :: us) hcv (by omega) (by omega) (fun _ _ => rfl)
    refine ⟨k + 1, by have := sub c _ ek; omega, fun S F hF hS => ?_⟩
    rw [show kBare (kN f) d t ++ us = kVal (kN f) d 8 c ++ (sg [46] :: nmT t.text :: us) by rw [kBare, e, ← ki0 ek]; simp [signOfP, signRows]] at hS
    rcases hK S F (by omega) hS with ⟨p, e4⟩ | ⟨a, S', hq, hs, e4⟩
    · exact Or.inl ⟨p, e4⟩
    rw [e4, show F - k = (F - (k + 1)) + 1 by omega, sufLoop]
    refine (accept_4 (m := tDot) rfl hs).run (fun p => Or.inl ⟨p, rfl⟩) fun b S1 hb h1 => ?_
    rw [if_pos hb]
    refine Go4.run (us := us) (Q := Like t) ?_ (fun p => Or.inl ⟨p, rfl⟩) fun u S2 hu h2 => Or.inr ⟨u, S2, hu, h2, rfl⟩
    unfold memberP
    refine (name_4 h1).bnd fun s S2 hs2 h2 => ?_
    subst hs2
    rw [reject_4 (hop hl8 e) h2]
    exact Go4.ret (flat_named hx e rfl (by rw [ek]; show List.map flatT [a] = _; simp [show flatT a = flatT c from hq])) h2
  · rw [show cls t.kind = 5 by rw [e]; rfl] at hh
    obtain ⟨c, l0, ek, vc, hl, vl⟩ := hh
    have hcv : VV f c := VV.kid hx hm hf (by rw [ek]; simp) vc
    obtain ⟨k, hk, hK⟩ := ih c (by rw [ek]; simp) f d 8 (sg [46] :: nmT t.text :: sg [40] :: (kVals (kN f) d l0 ++ (sg [41] :: us))) hcv (by omega) (by omega) (fun _ _ => rfl)
    refine ⟨k + 1, by have := sub c _ ek; omega, fun S F hF hS => ?_⟩
    rw [show kBare (kN f) d t ++ us = kVal (kN f) d 8 c ++ (sg [46] :: nmT t.text :: sg [40] :: (kVals (kN f) d l0 ++ (sg [41] :: us))) by rw [kBare, e, ← ki0 ek]; simp [signOfP, signRows, kArgs, ek]] at hS
    rcases hK S F (by omega) hS with ⟨p, e4⟩ | ⟨a, S', hq, hs, e4⟩
    · exact Or.inl ⟨p, e4⟩
    rw [e4, show F - k = (F - (k + 1)) + 1 by omega, sufLoop]
    refine (accept_4 (m := tDot) rfl hs).run (fun p => Or.inl ⟨p, rfl⟩) fun b S1 hb h1 => ?_
    rw [if_pos hb]
    refine Go4.run (us := us) (Q := Like t) ?_ (fun p => Or.inl ⟨p, rfl⟩) fun u S2 hu h2 => Or.inr ⟨u, S2, hu, h2, rfl⟩
    unfold memberP
    refine (name_4 h1).bnd fun s S2 hs2 h2 => ?_
    subst hs2
    refine (accept_4 (m := tOpen) rfl h2).bnd fun b S3 hb h3 => ?_
    rw [if_pos hb]
    refine (args_4 hL (sh := 41) (Or.inl rfl) (fun k h => VV.kid hx hm hf (by rw [ek]; exact List.mem_cons_of_mem _ h) (vl k h)) hl h3).bnd fun us' S4 hq4 h4 => Go4.ret ?_ h4
    exact flat_named hx e rfl (by rw [ek]; show List.map flatT (a :: us') = _; rw [List.map_cons, List.map_cons, show flatT a = flatT c from hq, show List.map flatT us' = _ from hq4])
  · rw [show cls t.kind = 4 by rw [e]; rfl] at hh
    obtain ⟨c, b, ek, vc, vb⟩ := hh
    have hcv : VV f c := VV.kid hx hm hf (by rw [ek]; simp) vc
    have hbv : VV f b := VV.kid hx hm hf (by rw [ek]; simp) vb
    obtain ⟨k, hk, hK⟩ := ih c (by rw [ek]; simp) f d 8 (sg [91] :: (kVal (kN f) d 1 b ++ (sg [93] :: us))) hcv (by omega) (by omega) (fun _ _ => rfl)
    refine ⟨k + 1, by have := sub c _ ek; omega, fun S F hF hS => ?_⟩
    rw [show kBare (kN f) d t ++ us = kVal (kN f) d 8 c ++ (sg [91] :: (kVal (kN f) d 1 b ++ (sg [93] :: us))) by rw [kBare, e, ki0 ek, ki1 ek]; simp [signOfP, signRows]] at hS
    rcases hK S F (by omega) hS with ⟨p, e4⟩ | ⟨a, S', hq, hs, e4⟩
    · exact Or.inl ⟨p, e4⟩
    rw [e4, show F - k = (F - (k + 1)) + 1 by omega, sufLoop, reject_4 (m := tDot) rfl hs]
    show Chn L t us _ (bnd (acceptP tSquare S') _)
    refine (accept_4 (m := tSquare) rfl hs).run (fun p => Or.inl ⟨p, rfl⟩) fun q S1 hb h1 => ?_
    rw [if_pos hb]
    refine (hL.v (by omega) (by omega) hbv (fol_end (by decide)) h1).run (fun p => Or.inl ⟨p, rfl⟩) fun u S2 hu h2 => ?_
    refine (want_4 (m := tSquared) rfl h2).run (fun p => Or.inl ⟨p, rfl⟩) fun _ S3 _ h3 => Or.inr ⟨_, S3, ?_, h3, rfl⟩
    exact flat_bare hx e rfl (by rw [ek]; show List.map flatT [a, u] = _; simp [show flatT a = flatT c from hq, show flatT u = flatT b from hu])
  · rw [show cls t.kind = 5 by rw [e]; rfl] at hh
    obtain ⟨c, l0, ek, vc, hl, vl⟩ := hh
    have hcv : VV f c := VV.kid hx hm hf (by rw [ek]; simp) vc
    have hcal : ∃ l1, 8 ≤ l1 ∧ l1 ≤ 9 ∧ (l1 = 8 → c.kind ≠ 42) ∧ kCalled (kN f) d t = kVal (kN f) d l1 c := by
      unfold kCalled
      rw [ki0 ek]
      by_cases h42 : c.kind = 42
      · exact ⟨9, by omega, by omega, fun e => (by cases e), by rw [if_pos h42, kVal, if_pos (by have := strength_le c.kind; omega)]⟩
      · exact ⟨8, by omega, by omega, fun _ => h42, by rw [if_neg h42]⟩
    obtain ⟨l1, g8, g9, gn, gc⟩ := hcal
    obtain ⟨k, hk, hK⟩ := ih c (by rw [ek]; simp) f d l1 (sg [40] :: (kVals (kN f) d l0 ++ (sg [41] :: us))) hcv g8 g9 (fun e1 e2 => absurd e2 (gn e1))
    refine ⟨k + 1, by have := sub c _ ek; omega, fun S F hF hS => ?_⟩
    rw [show kBare (kN f) d t ++ us = kVal (kN f) d l1 c ++ (sg [40] :: (kVals (kN f) d l0 ++ (sg [41] :: us))) by rw [← gc, kBare, e]; simp [signOfP, signRows, kArgs, ek]] at hS
    rcases hK S F (by omega) hS with ⟨p, e4⟩ | ⟨a, S', hq, hs, e4⟩
    · exact Or.inl ⟨p, e4⟩
    rw [e4, show F - k = (F - (k + 1)) + 1 by omega, sufLoop, reject_4 (m := tDot) rfl hs]
    show Chn L t us _ (bnd (acceptP tSquare S') _)
    rw [reject_4 (m := tSquare) rfl hs]
    show Chn L t us _ (bnd (acceptP tOpen S') _)
    refine (accept_4 (m := tOpen) rfl hs).run (fun p => Or.inl ⟨p, rfl⟩) fun q S1 hb h1 => ?_
    rw [if_pos hb]
    refine (args_4 hL (sh := 41) (Or.inl rfl) (fun k h => VV.kid hx hm hf (by rw [ek]; exact List.mem_cons_of_mem _ h) (vl k h)) hl h1).run (fun p => Or.inl ⟨p, rfl⟩) fun us' S4 hq4 h4 => Or.inr ⟨_, S4, ?_, h4, rfl⟩
    exact flat_bare hx e rfl (by rw [ek]; show List.map flatT (a :: us') = _; rw [List.map_cons, List.map_cons, show flatT a = flatT c from hq, show List.map flatT us' = _ from hq4])
end Go.Proofs.YtndgajlidckcdaaGreatDoor

namespace Go.Proofs.YtndgajlidckcdaaGreatDoor
open Go.RowKit
set_option linter.unusedVariables false

theorem strength_7 {k : Nat} (h : k ≤ 45) : strengthP k = 7 ↔ k = 40 ∨ k = 41 := by
  have h2 : ∀ k ∈ List.range 46, strengthP k = 7 ↔ k = 40 ∨ k = 41 := by decide
  exact h2 k (by simp; omega)
theorem strength_pair {k : Nat} (h : k ≤ 45) (h6 : strengthP k ≤ 6) : 31 ≤ k ∧ k ≤ 39 := by
  have h2 : ∀ k ∈ List.range 46, strengthP k ≤ 6 → 31 ≤ k ∧ k ≤ 39 := by decide
  exact h2 k (by simp; omega) h6
theorem suffixed_4 {L : Low} (hL : LowB L) {f d l : Nat} {t : Tree} {us : List To} {S : LS} (hv : VV f t) (h8 : 8 ≤ l) (h9 : l ≤ 9) (hu : Fol 7 us) (hS : Stand (kVal (kN f) d l t ++ us) S) : Go4 (suffixedP L S) us (Like t) := by
  obtain ⟨k, hk, hK⟩ := suf_chain hL t f d l us hv h8 h9 (fun _ _ => hu.op)
  have h1 := hv.m
  have h2 := hv.f
  have := hK S 3002 (by omega) hS
  rcases this with ⟨p, e⟩ | ⟨a, S', hq, hs, e⟩
  · exact Or.inl ⟨p, e⟩
  · refine Or.inr ⟨a, S', ?_, hq, hs⟩
    show sufF L 3002 S = _
    rw [e, show 3002 - k = (3001 - k) + 1 by omega, sufLoop, reject_4 hu.dot hs]
    show bnd (acceptP tSquare S') _ = _
    rw [reject_4 hu.sq hs]
    show bnd (acceptP tOpen S') _ = _
    rw [reject_4 hu.op hs]
    rfl
theorem prefixed_4 {L : Low} (hL : LowB L) {f d l : Nat} {t : Tree} {us : List To} {S : LS} (hv : VV f t) (h7 : 7 ≤ l) (h9 : l ≤ 9) (hu : Fol 7 us) (hS : Stand (kVal (kN f) d l t ++ us) S) : Go4 (prefixedP L S) us (Like t) := by
  by_cases hs7 : l = 7 ∧ strengthP t.kind = 7
  · obtain ⟨rfl, hs7⟩ := hs7
    obtain ⟨hx, v, hm, hf⟩ := hv
    rw [kVal, if_neg (by omega)] at hS
    cases f with
    | zero => rw [many_eq] at hm; omega
    | succ f =>
    have hS : Stand (kBare (kN f) d t ++ us) S := hS
    have hh := hx.here.2
    rcases (strength_7 v.2).1 hs7 with e | e
    · rw [show cls t.kind = 3 by rw [e]; rfl] at hh
      obtain ⟨c, ek, vc⟩ := hh
      rw [show kBare (kN f) d t = sg [45] :: kVal (kN f) d 7 (kid t 0) by rw [kBare, e]; rfl, ki0 ek] at hS
      rw [prefixedP, if_neg (is_no rfl hS), if_pos (is_yes rfl hS)]
      refine (take_4 hS).bnd fun _ S1 _ h1 => ?_
      refine (hL.n (by omega) (by omega) (VV.kid hx hm hf (by rw [ek]; simp) vc) hu h1).bnd fun x S2 hq h2 => Go4.ret ?_ h2
      exact flat_bare hx e rfl (by rw [ek]; show List.map flatT [x] = _; simp [show flatT x = flatT c from hq])
    · rw [show cls t.kind = 3 by rw [e]; rfl] at hh
      obtain ⟨c, ek, vc⟩ := hh
      rw [show kBare (kN f) d t = sg [33] :: kVal (kN f) d 7 (kid t 0) by rw [kBare, e]; rfl, ki0 ek] at hS
      rw [prefixedP, if_pos (is_yes rfl hS)]
      refine (take_4 hS).bnd fun _ S1 _ h1 => ?_
      refine (hL.n (by omega) (by omega) (VV.kid hx hm hf (by rw [ek]; simp) vc) hu h1).bnd fun x S2 hq h2 => Go4.ret ?_ h2
      exact flat_bare hx e rfl (by rw [ek]; show List.map flatT [x] = _; simp [show flatT x = flatT c from hq])
  · have hl : ∃ l', 8 ≤ l' ∧ l' ≤ 9 ∧ kVal (kN f) d l t = kVal (kN f) d l' t := by
      by_cases h : l = 7
      · refine ⟨8, by omega, by omega, ?_⟩
        have := strength_le t.kind
        unfold kVal
        by_cases h6 : strengthP t.kind < 7
        · rw [if_pos (by omega), if_pos (by omega)]
        · rw [if_neg (by omega), if_neg (by omega)]
      · exact ⟨l, by omega, h9, rfl⟩
    obtain ⟨l', g8, g9, ge⟩ := hl
    rw [ge] at hS
    have hd : hdIs (kVal (kN f) d l' t ++ us) tNot = false ∧ hdIs (kVal (kN f) d l' t ++ us) tMinus = false := by
      obtain ⟨h0, r, e, h1, h2, h3⟩ := hv.hd (d := d) (l := l') (b := true) (fun _ => g8)
      rw [e]
      exact h2 rfl
    rw [prefixedP, if_neg (is_no hd.1 hS), if_neg (is_no hd.2 hS)]
    exact suffixed_4 hL hv g8 g9 hu hS
def JCn (lev : Nat) (P : LS → Res Tree) (t : Tree) (us : List To) (F : Nat) (r : Res Tree) : Prop := (∃ p, r = .inl (4, p)) ∨ ∃ a S', Like t a ∧ Stand us S' ∧ r = joinLoop lev P F a S'
theorem jo_4 {L : Low} (hL : LowB L) : ∀ (m : Nat), m ≤ 6 → ∀ {f d l : Nat} {t : Tree} {us : List To} {S : LS}, VV f t → 7 - m ≤ l → l ≤ 9 → Fol (7 - m) us → Stand (kVal (kN f) d l t ++ us) S → Go4 (jo (prefixedP L) m S) us (Like t)
  | 0, _, f, d, l, t, us, S, hv, hl, h9, hu, hS => prefixed_4 hL hv hl h9 hu hS
  | m + 1, hm6, f, d, l, t, us, S, hv, hl, h9, hu, hS => by
    have IH := @jo_4 L hL m (by omega)
    have e6 : 7 - (m + 1) = 6 - m := by omega
    rw [e6] at hl hu
    have e7 : 7 - m = 6 - m + 1 := by omega
    rw [e7] at IH
    have chain : ∀ (t : Tree) (f d l : Nat) (us : List To), VV f t → 6 - m ≤ l → l ≤ 9 → Fol (6 - m + 1) us → ∃ k, k ≤ t.many ∧ ∀ S F, k ≤ F → Stand (kVal (kN f) d l t ++ us) S → JCn (6 - m) (jo (prefixedP L) m) t us (F - k) (bnd (jo (prefixedP L) m S) fun t S1 => joinLoop (6 - m) (jo (prefixedP L) m) F t S1) := by
      refine tree_ind _ fun t ih f d l us hv hl h9 hu => ?_
      have zero : (∃ l', 6 - m + 1 ≤ l' ∧ l' ≤ 9 ∧ kVal (kN f) d l t = kVal (kN f) d l' t) → ∃ k, k ≤ t.many ∧ ∀ S F, k ≤ F → Stand (kVal (kN f) d l t ++ us) S → JCn (6 - m) (jo (prefixedP L) m) t us (F - k) (bnd (jo (prefixedP L) m S) fun t S1 => joinLoop (6 - m) (jo (prefixedP L) m) F t S1) := fun ⟨l', g1, g9, ge⟩ => ⟨0, Nat.zero_le _, fun S F _ hS => by
        rw [ge] at hS
        exact (IH hv g1 g9 hu hS).run (fun p => Or.inl ⟨p, rfl⟩) fun a S' hq hs => Or.inr ⟨a, S', hq, hs, rfl⟩⟩
      have hsl := strength_le t.kind
      by_cases h1 : strengthP t.kind < l
      · exact zero ⟨9, by omega, by omega, by unfold kVal; rw [if_pos h1, if_pos (by omega)]⟩
      by_cases h2 : strengthP t.kind = 6 - m
      · have hp := strength_pair hv.v.2 (by omega)
        obtain ⟨hx, v, hm, hf⟩ := hv
        cases f with
        | zero => rw [many_eq] at hm; omega
        | succ f =>
        obtain ⟨es, hc, _⟩ := pairSg hp.1 hp.2
        have hh := hx.here.2
        rw [hc] at hh
        obtain ⟨a, b, ek, va, vb⟩ := hh
        obtain ⟨r1, r2, r3⟩ := sign_row hp.1 hp.2 (us := kVal (kN f) d (6 - m + 1) b ++ us)
        rw [← r3, h2] at r1 r2
        have hav : VV f a := VV.kid hx hm hf (by rw [ek]; simp) va
        have hbv : VV f b := VV.kid hx hm hf (by rw [ek]; simp) vb
        obtain ⟨k, hk, hK⟩ := ih a (by rw [ek]; simp) f d (6 - m) (sgT (signOfP t.kind).1.1 :: (kVal (kN f) d (6 - m + 1) b ++ us)) hav (by omega) (by omega) r2
        refine ⟨k + 1, ?_, fun S F hF hS => ?_⟩
        · rw [many_eq t, ek, List.map_cons, List.sum_cons]; omega
        have et : kVal (kN (f + 1)) d l t ++ us = kVal (kN f) d (6 - m) a ++ (sgT (signOfP t.kind).1.1 :: (kVal (kN f) d (6 - m + 1) b ++ us)) := by
          rw [kVal, if_neg h1]
          show kBare (kN f) d t ++ us = _
          rw [kBare, if_pos es, ki0 ek, ki1 ek, ← r3, h2]
          simp
        rw [et] at hS
        rcases hK S F (by omega) hS with ⟨p, e4⟩ | ⟨x, S', hq, hs, e4⟩
        · exact Or.inl ⟨p, e4⟩
        rw [e4, show F - k = (F - (k + 1)) + 1 by omega, joinLoop, if_neg (by rw [joiner_eq hs, r1]; omega)]
        refine (take_4 hs).run (fun p => Or.inl ⟨p, rfl⟩) fun _ S1 _ h1 => ?_
        refine (IH hbv (by omega) (by omega) hu h1).run (fun p => Or.inl ⟨p, rfl⟩) fun u S2 hu2 h2 => Or.inr ⟨_, S2, ?_, h2, rfl⟩
        rw [joiner_eq hs, r1]
        have h0 : ∀ k ∈ [31, 32, 33, 34, 35, 36, 37, 38, 39], (nameK k || k == 19 || k == 18 || k == 2) = false := by decide
        exact flat_bare hx rfl (h0 _ (by simp; omega)) (by rw [ek]; show List.map flatT [x, u] = _; simp [show flatT x = flatT a from hq, show flatT u = flatT b from hu2])
      · exact zero ⟨6 - m + 1, by omega, by omega, by unfold kVal; rw [if_neg h1, if_neg (by omega)]⟩
    obtain ⟨k, hk, hK⟩ := chain t f d l us hv hl h9 (hu.up (by omega))
    have h1 := hv.m
    have h2 := hv.f
    rcases hK S 3002 (by omega) hS with ⟨p, e⟩ | ⟨a, S', hq, hs, e⟩
    · exact Or.inl ⟨p, e⟩
    · refine Or.inr ⟨a, S', ?_, hq, hs⟩
      refine Eq.trans e ?_
      rw [show 3002 - k = (3001 - k) + 1 by omega, joinLoop, if_pos (by rw [joiner_eq hs]; exact hu.jn _ (by omega))]
theorem deep_4 {P : LS → Res Tree} {us vs : List To} {S : LS} {t : Tree} (hP : ∀ S, Stand vs S → Go4 (P S) us (Like t)) (hS : Stand vs S) : Go4 (deepP P S) us (Like t) := by
  unfold deepP
  split
  · exact Or.inl ⟨_, rfl⟩
  · exact (hP _ (stand_dp _ _ _ hS)).bnd fun a S1 hq h1 => Go4.ret hq (stand_dp _ _ _ h1)
end Go.Proofs.YtndgajlidckcdaaGreatDoor

namespace Go.Proofs.YtndgajlidckcdaaGreatDoor
open Go.RowKit
set_option linter.unusedVariables false

theorem like_kind {t a : Tree} (h : Like t a) : a.kind = t.kind := by
  have := congrArg Tree.kind h
  rw [flat_eq, flat_eq t] at this
  exact this
theorem first_l {f d : Nat} {t c : Tree} (ek : kid t 0 = c) : ∃ l, 1 ≤ l ∧ l ≤ 9 ∧ kFirst (xN f) (kN f) d t = kVal (kN f) d l c := by
  unfold kFirst
  rw [ek]
  have := strength_le c.kind
  split
  · refine ⟨9, by omega, by omega, ?_⟩
    unfold kVal
    rw [if_neg (by omega), if_pos (by omega)]
  · exact ⟨1, by omega, by omega, rfl⟩
theorem bad_of {us : List To} {f d l : Nat} {c : Tree} {S : LS} (hc : VV f c) (hS : Stand (kVal (kN f) d l c ++ us) S) {m : ByteArray} (hm : m ∈ badV) : ¬ S.is m = true := is_no (hc.no hm us) hS
theorem close_4 {L : Low} (hL : LowB L) {f d l : Nat} {c : Tree} {us : List To} {S : LS} (h1 : 1 ≤ l) (h9 : l ≤ 9) (hc : VV f c) (hS : Stand (kVal (kN f) d l c ++ (sg [59] :: us)) S) : Go4 (closeP L.V S) us (Like c) := by
  unfold closeP
  refine (hL.v h1 h9 hc (fol_end (by decide)) hS).bnd fun a S1 hq h1 => ?_
  exact (want_4 (m := tSemi) rfl h1).bnd fun _ S2 _ h2 => Go4.ret hq h2
theorem guarded_4 {L : Low} (hL : LowB L) {f d k : Nat} {t c b : Tree} {x : List Tree} {us : List To} {S : LS} {w : List UInt8} (hx : Wx t) (ek : t.kids = c :: b :: x) (hc : vK c) (hb : b.kind = 7) (hm : t.many ≤ f + 1) (hf : f + 1 ≤ 1201) (hS : Stand (sg w :: (kGuard (kN f) d t ++ us)) S) : Go4 (guardedP L k S) us (fun y => ∃ c' b' ln, y = nd k ln [c', b'] ∧ Like c c' ∧ Like b b') := by
  have e : kGuard (kN f) d t ++ us = sg [40] :: (kVal (kN f) d 1 c ++ (sg [41] :: (kBraces (kN f) d b.kids ++ us))) := by simp [kGuard, ki0 ek, ki1 ek]
  rw [e] at hS
  unfold guardedP
  refine (take_4 hS).bnd fun _ S1 _ h1 => ?_
  refine (inPar_4 hL (by omega) (by omega) (VV.kid hx hm hf (by rw [ek]; simp) hc) h1).bnd fun c' S2 hq h2 => ?_
  have mb : b.many ≤ f := manyKid hm (by rw [ek]; simp)
  exact (blockP_4 hL (hx.kid (by rw [ek]; simp)) hb (by omega) hf h2).bnd fun b' S3 hr h3 => Go4.ret ⟨c', b', _, rfl, hq, hr⟩ h3
theorem catch_4 {L : Low} (hL : LowB L) {f d : Nat} {t b : Tree} {us : List To} {S : LS} (hx : Wx t) (hk : t.kind = 15) (ek : t.kids = [b]) (hb : b.kind = 7) (hm : t.many ≤ f) (hf : f + 1 ≤ 1201) (hS : Stand (kCatch (kN f) d t ++ us) S) : Go4 (catchP L S) us (Like t) := by
  have e : kCatch (kN f) d t ++ us = sg [99, 97, 116, 99, 104] :: sg [40] :: nmT t.text :: sg [41] :: (kBraces (kN f) d b.kids ++ us) := by simp [kCatch, ki0 ek]
  rw [e] at hS
  unfold catchP
  refine (want_4 (m := wCatch) rfl hS).bnd fun _ S1 _ h1 => ?_
  refine (want_4 (m := tOpen) rfl h1).bnd fun _ S2 _ h2 => ?_
  refine (name_4 h2).bnd fun s S3 hs h3 => ?_
  subst hs
  refine (want_4 (m := tShut) rfl h3).bnd fun _ S4 _ h4 => ?_
  have mb : b.many ≤ f := manyKid (t := t) (by omega) (by rw [ek]; simp)
  refine (blockP_4 hL (hx.kid (by rw [ek]; simp)) hb (by omega) hf h4).bnd fun b' S5 hr h5 => Go4.ret ?_ h5
  exact flat_named hx hk rfl (by rw [ek]; show List.map flatT [b'] = _; simp [show flatT b' = flatT b from hr])
theorem any_4 {L : Low} (hL : LowB L) {f d : Nat} {t : Tree} {us : List To} {S : LS} (hx : Wx t) (hs : sK t) (hm : t.many ≤ f) (hf : f ≤ 1201) (he : hdIs us wElse = false) (hS : Stand ((kN f).S d t ++ us) S) : Go4 (anyP L S) us (Like t) := by
  cases f with
  | zero => rw [many_eq] at hm; omega
  | succ f =>
  have hS : Stand (kStm (xN f) (kN f) d t ++ us) S := hS
  have hh := hx.here.2
  unfold sK at hs
  have b1 : wVar ∈ badV := by simp [badV]
  have b2 : wIf ∈ badV := by simp [badV]
  have b3 : wWhile ∈ badV := by simp [badV]
  have b4 : wReturn ∈ badV := by simp [badV]
  have b5 : wThrow ∈ badV := by simp [badV]
  have b6 : wPrint ∈ badV := by simp [badV]
  have b7 : wTry ∈ badV := by simp [badV]
  have b8 : tSemi ∈ badV := by simp [badV]
  rcases (by omega : t.kind = 8 ∨ t.kind = 9 ∨ t.kind = 10 ∨ t.kind = 11 ∨ t.kind = 12 ∨ t.kind = 13 ∨ t.kind = 14 ∨ t.kind = 16 ∨ t.kind = 17) with e | e | e | e | e | e | e | e | e
  · rw [show cls t.kind = 3 by rw [e]; rfl] at hh
    obtain ⟨a, ek, va⟩ := hh
    rw [show kStm (xN f) (kN f) d t ++ us = sg [118, 97, 114] :: nmT t.text :: sg [61] :: (kVal (kN f) d 1 a ++ (sg [59] :: us)) by rw [kStm, e, ki0 ek]; simp] at hS
    rw [anyP, if_pos (is_yes rfl hS)]
    unfold variableP
    refine (take_4 hS).bnd fun _ S1 _ h1 => ?_
    refine (name_4 h1).bnd fun s S2 hs h2 => ?_
    subst hs
    refine (want_4 (m := tEqual) rfl h2).bnd fun _ S3 _ h3 => ?_
    refine (close_4 hL (by omega) (by omega) (VV.kid hx hm hf (by rw [ek]; simp) va) h3).bnd fun x S4 hq h4 => Go4.ret ?_ h4
    exact flat_named hx e rfl (by rw [ek]; show List.map flatT [x] = _; simp [show flatT x = flatT a from hq])
  · rw [show cls t.kind = 16 by rw [e]; rfl] at hh
    obtain ⟨a, b, ek, va, vb, hset⟩ := hh
    have hav : VV f a := VV.kid hx hm hf (by rw [ek]; simp) va
    have hbv : VV f b := VV.kid hx hm hf (by rw [ek]; simp) vb
    obtain ⟨l, l1, l9, le⟩ := first_l (f := f) (d := d) (ki0 ek)
    rw [show kStm (xN f) (kN f) d t ++ us = kVal (kN f) d l a ++ (sg [61] :: (kVal (kN f) d 1 b ++ (sg [59] :: us))) by rw [kStm, e, ← le, ki1 ek]; simp] at hS
    rw [anyP, if_neg (bad_of hav hS b1), if_neg (bad_of hav hS b2), if_neg (bad_of hav hS b3), if_neg (bad_of hav hS b4), if_neg (bad_of hav hS b5), if_neg (bad_of hav hS b6), if_neg (bad_of hav hS b7)]
    unfold bareP
    refine (hL.v l1 l9 hav (fol_end (by decide)) hS).bnd fun x S1 hq h1 => ?_
    rw [if_pos (is_yes rfl h1), if_pos (by rw [like_kind hq]; exact hset)]
    refine (take_4 h1).bnd fun _ S2 _ h2 => ?_
    refine (hL.v (by omega) (by omega) hbv (fol_end (by decide)) h2).bnd fun y S3 hr h3 => ?_
    refine (want_4 (m := tSemi) rfl h3).bnd fun _ S4 _ h4 => Go4.ret ?_ h4
    exact flat_bare hx e rfl (by rw [ek]; show List.map flatT [x, y] = _; simp [show flatT x = flatT a from hq, show flatT y = flatT b from hr])
  · rw [show cls t.kind = 6 by rw [e]; rfl] at hh
    obtain ⟨c, b, vc, hb, hk⟩ := hh
    rcases hk with ek | ⟨x, ek, hx3⟩
    · rw [show kStm (xN f) (kN f) d t ++ us = sg [105, 102] :: (kGuard (kN f) d t ++ us) by rw [kStm, e]; simp [kIf, ek]] at hS
      rw [anyP, if_neg (is_no rfl hS), if_pos (is_yes rfl hS)]
      unfold choiceP
      refine (guarded_4 hL (k := 10) hx ek vc hb hm hf hS).bnd fun y S1 hy h1 => ?_
      obtain ⟨c', b', ln, rfl, hc', hb'⟩ := hy
      rw [reject_4 he h1]
      exact Go4.ret (flat_bare hx e rfl (by rw [ek]; show List.map flatT [c', b'] = _; simp [show flatT c' = flatT c from hc', show flatT b' = flatT b from hb'])) h1
    · rw [show kStm (xN f) (kN f) d t ++ us = sg [105, 102] :: (kGuard (kN f) d t ++ (sg [101, 108, 115, 101] :: (kBraces (kN f) d x.kids ++ us))) by rw [kStm, e]; simp [kIf, ek, ki2 ek]] at hS
      rw [anyP, if_neg (is_no rfl hS), if_pos (is_yes rfl hS)]
      unfold choiceP
      refine (guarded_4 hL (k := 10) hx ek vc hb hm hf hS).bnd fun y S1 hy h1 => ?_
      obtain ⟨c', b', ln, rfl, hc', hb'⟩ := hy
      refine (accept_4 (m := wElse) rfl h1).bnd fun q S2 hq h2 => ?_
      rw [if_pos hq]
      have mx : x.many ≤ f := manyKid hm (by rw [ek]; simp)
      refine (blockP_4 hL (hx.kid (by rw [ek]; simp)) hx3 (by omega) hf h2).bnd fun u S3 hu h3 => Go4.ret ?_ h3
      exact flat_bare (ln := ln) hx e rfl (by rw [ek]; show List.map flatT [c', b', u] = _; simp [show flatT c' = flatT c from hc', show flatT b' = flatT b from hb', show flatT u = flatT x from hu])
  · rw [show cls t.kind = 7 by rw [e]; rfl] at hh
    obtain ⟨c, b, ek, vc, hb⟩ := hh
    rw [show kStm (xN f) (kN f) d t ++ us = sg [119, 104, 105, 108, 101] :: (kGuard (kN f) d t ++ us) by rw [kStm, e]; simp] at hS
    rw [anyP, if_neg (is_no rfl hS), if_neg (is_no rfl hS), if_pos (is_yes rfl hS)]
    refine (guarded_4 hL (k := 11) hx ek vc hb hm hf hS).mono fun y hy => ?_
    obtain ⟨c', b', ln, rfl, hc', hb'⟩ := hy
    exact flat_bare hx e rfl (by rw [ek]; show List.map flatT [c', b'] = _; simp [show flatT c' = flatT c from hc', show flatT b' = flatT b from hb'])
  · rw [show cls t.kind = 11 by rw [e]; rfl] at hh
    rcases hh with ek | ⟨a, ek, va⟩
    · rw [show kStm (xN f) (kN f) d t ++ us = sg [114, 101, 116, 117, 114, 110] :: sg [59] :: us by rw [kStm, e]; simp [kRet, ek]] at hS
      rw [anyP, if_neg (is_no rfl hS), if_neg (is_no rfl hS), if_neg (is_no rfl hS), if_pos (is_yes rfl hS)]
      unfold returnedP
      refine (take_4 hS).bnd fun _ S1 _ h1 => ?_
      refine (accept_4 (m := tSemi) rfl h1).bnd fun q S2 hq h2 => ?_
      rw [if_pos hq]
      exact Go4.ret (flat_bare hx e rfl (by rw [ek])) h2
    · have hav : VV f a := VV.kid hx hm hf (by rw [ek]; simp) va
      rw [show kStm (xN f) (kN f) d t ++ us = sg [114, 101, 116, 117, 114, 110] :: (kVal (kN f) d 1 a ++ (sg [59] :: us)) by rw [kStm, e]; simp [kRet, ek, ki0 ek]] at hS
      rw [anyP, if_neg (is_no rfl hS), if_neg (is_no rfl hS), if_neg (is_no rfl hS), if_pos (is_yes rfl hS)]
      unfold returnedP
      refine (take_4 hS).bnd fun _ S1 _ h1 => ?_
      rw [reject_4 (hav.no b8 _) h1]
      show Go4 (bnd (closeP L.V S1) _) us _
      refine (close_4 hL (by omega) (by omega) hav h1).bnd fun x S4 hq h4 => Go4.ret ?_ h4
      exact flat_bare hx e rfl (by rw [ek]; show List.map flatT [x] = _; simp [show flatT x = flatT a from hq])
  · rw [show cls t.kind = 3 by rw [e]; rfl] at hh
    obtain ⟨a, ek, va⟩ := hh
    rw [show kStm (xN f) (kN f) d t ++ us = sg [116, 104, 114, 111, 119] :: (kVal (kN f) d 1 a ++ (sg [59] :: us)) by rw [kStm, e, ki0 ek]; simp] at hS
    rw [anyP, if_neg (is_no rfl hS), if_neg (is_no rfl hS), if_neg (is_no rfl hS), if_neg (is_no rfl hS), if_pos (is_yes rfl hS)]
    unfold endP
    refine (take_4 hS).bnd fun _ S1 _ h1 => ?_
    refine (close_4 hL (by omega) (by omega) (VV.kid hx hm hf (by rw [ek]; simp) va) h1).bnd fun x S4 hq h4 => Go4.ret ?_ h4
    exact flat_bare hx e rfl (by rw [ek]; show List.map flatT [x] = _; simp [show flatT x = flatT a from hq])
  · rw [show cls t.kind = 12 by rw [e]; rfl] at hh
    obtain ⟨b, c, ek, hb, hc⟩ := hh
    have xc : Wx c := hx.kid (by rw [ek]; simp)
    have mb : b.many ≤ f := manyKid hm (by rw [ek]; simp)
    have mc : c.many ≤ f := manyKid hm (by rw [ek]; simp)
    have hc2 := xc.here.2
    rw [show cls c.kind = 13 by rw [hc]; rfl] at hc2
    obtain ⟨b2, ek2, hb2⟩ := hc2
    rw [show kStm (xN f) (kN f) d t ++ us = sg [116, 114, 121] :: (kBraces (kN f) d b.kids ++ (kCatch (kN f) d c ++ us)) by rw [kStm, e, ki0 ek, ki1 ek]; simp] at hS
    rw [anyP, if_neg (is_no rfl hS), if_neg (is_no rfl hS), if_neg (is_no rfl hS), if_neg (is_no rfl hS), if_neg (is_no rfl hS), if_neg (is_no rfl hS), if_pos (is_yes rfl hS)]
    unfold tryP
    refine (take_4 hS).bnd fun _ S1 _ h1 => ?_
    refine (blockP_4 hL (hx.kid (by rw [ek]; simp)) hb (by omega) hf h1).bnd fun b' S2 hb' h2 => ?_
    refine (catch_4 hL xc hc ek2 hb2 mc hf h2).bnd fun c' S3 hc' h3 => Go4.ret ?_ h3
    exact flat_bare hx e rfl (by rw [ek]; show List.map flatT [b', c'] = _; simp [show flatT c' = flatT c from hc', show flatT b' = flatT b from hb'])
  · rw [show cls t.kind = 3 by rw [e]; rfl] at hh
    obtain ⟨a, ek, va⟩ := hh
    rw [show kStm (xN f) (kN f) d t ++ us = sg [112, 114, 105, 110, 116] :: sg [40] :: (kVal (kN f) d 1 a ++ (sg [41] :: sg [59] :: us)) by rw [kStm, e, ki0 ek]; simp] at hS
    rw [anyP, if_neg (is_no rfl hS), if_neg (is_no rfl hS), if_neg (is_no rfl hS), if_neg (is_no rfl hS), if_neg (is_no rfl hS), if_pos (is_yes rfl hS)]
    unfold endP closeP
    refine (take_4 hS).bnd fun _ S1 _ h1 => ?_
    refine Go4.bnd (us := us) (Q := Like a) ?_ fun x S4 hq h4 => Go4.ret (flat_bare hx e rfl (by rw [ek]; show List.map flatT [x] = _; simp [show flatT x = flatT a from hq])) h4
    refine (inPar_4 hL (by omega) (by omega) (VV.kid hx hm hf (by rw [ek]; simp) va) h1).bnd fun x S2 hq h2 => ?_
    exact (want_4 (m := tSemi) rfl h2).bnd fun _ S3 _ h3 => Go4.ret hq h3
  · rw [show cls t.kind = 3 by rw [e]; rfl] at hh
    obtain ⟨a, ek, va⟩ := hh
    have hav : VV f a := VV.kid hx hm hf (by rw [ek]; simp) va
    obtain ⟨l, l1, l9, le⟩ := first_l (f := f) (d := d) (ki0 ek)
    rw [show kStm (xN f) (kN f) d t ++ us = kVal (kN f) d l a ++ (sg [59] :: us) by rw [kStm, e, ← le]; simp] at hS
    rw [anyP, if_neg (bad_of hav hS b1), if_neg (bad_of hav hS b2), if_neg (bad_of hav hS b3), if_neg (bad_of hav hS b4), if_neg (bad_of hav hS b5), if_neg (bad_of hav hS b6), if_neg (bad_of hav hS b7)]
    unfold bareP
    refine (hL.v l1 l9 hav (fol_end (by decide)) hS).bnd fun x S1 hq h1 => ?_
    rw [if_neg (is_no rfl h1)]
    refine (want_4 (m := tSemi) rfl h1).bnd fun _ S4 _ h4 => Go4.ret ?_ h4
    exact flat_bare hx e rfl (by rw [ek]; show List.map flatT [x] = _; simp [show flatT x = flatT a from hq])
theorem lower_4 : ∀ d, LowB (lower d)
  | 0 => ⟨fun _ _ _ _ _ => Or.inl ⟨_, rfl⟩, fun _ _ _ _ _ => Or.inl ⟨_, rfl⟩, fun _ _ _ _ _ _ => Or.inl ⟨_, rfl⟩⟩
  | d + 1 => ⟨fun h1 h9 hv hu hS => deep_4 (fun S hS => jo_4 (lower_4 d) 6 (by omega) hv h1 h9 hu hS) hS, fun h7 h9 hv hu hS => deep_4 (fun S hS => prefixed_4 (lower_4 d) hv h7 h9 hu hS) hS, fun hx hs hm hf he hS => deep_4 (fun S hS => any_4 (lower_4 d) hx hs hm hf he hS) hS⟩
end Go.Proofs.YtndgajlidckcdaaGreatDoor
