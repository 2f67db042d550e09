/-
  Statements.
  Classes, and what is outermost.
  Classes, and what is outermost.
-/
import Derived.Test.YtcpjefdbgjlnnaaGreatDoorM13
namespace Go.Proofs.YtcpjefdbgjlnnaaGreatDoor
open Go.RowKit
attribute [local go_sem ↓] Go.wp_at_zero Go.wp_at_succ

theorem any_any {w : World} {r D : Nat} {S : LS} (cx : Cx w r S) (hD : S.dp = D) {L : Low} (hL : LowC r D L) :
    Calls Tryz.prog 192 #[.pointer (some ⟨r, 0, none⟩)] w fun e w' => Ret (anyP L S) r (vNode w.heap.size) e w' ∧ Ext r w w' := by
  cases hb0 : S.is wVar with
  | true =>
    rw [show anyP L S = (variableP L S) by rw [anyP, if_pos hb0]]
    exact any_any_0 cx hD hL hb0
  | false =>
    cases hb1 : S.is wIf with
    | true =>
      rw [show anyP L S = (choiceP L S) by rw [anyP, if_neg (by rw [hb0]; decide), if_pos hb1]]
      exact any_any_1 cx hD hL hb0 hb1
    | false =>
      cases hb2 : S.is wWhile with
      | true =>
        rw [show anyP L S = (guardedP L 11 S) by rw [anyP, if_neg (by rw [hb0]; decide), if_neg (by rw [hb1]; decide), if_pos hb2]]
        exact any_any_2 cx hD hL hb0 hb1 hb2
      | false =>
        cases hb3 : S.is wReturn with
        | true =>
          rw [show anyP L S = (returnedP L S) by rw [anyP, if_neg (by rw [hb0]; decide), if_neg (by rw [hb1]; decide), if_neg (by rw [hb2]; decide), if_pos hb3]]
          exact any_any_3 cx hD hL hb0 hb1 hb2 hb3
        | false =>
          cases hb4 : S.is wThrow with
          | true =>
            rw [show anyP L S = (endP 13 L.V S) by rw [anyP, if_neg (by rw [hb0]; decide), if_neg (by rw [hb1]; decide), if_neg (by rw [hb2]; decide), if_neg (by rw [hb3]; decide), if_pos hb4]]
            exact any_any_4 cx hD hL hb0 hb1 hb2 hb3 hb4
          | false =>
            cases hb5 : S.is wPrint with
            | true =>
              rw [show anyP L S = (endP 16 (inParP L) S) by rw [anyP, if_neg (by rw [hb0]; decide), if_neg (by rw [hb1]; decide), if_neg (by rw [hb2]; decide), if_neg (by rw [hb3]; decide), if_neg (by rw [hb4]; decide), if_pos hb5]]
              exact any_any_5 cx hD hL hb0 hb1 hb2 hb3 hb4 hb5
            | false =>
              cases hb6 : S.is wTry with
              | true =>
                rw [show anyP L S = (tryP L S) by rw [anyP, if_neg (by rw [hb0]; decide), if_neg (by rw [hb1]; decide), if_neg (by rw [hb2]; decide), if_neg (by rw [hb3]; decide), if_neg (by rw [hb4]; decide), if_neg (by rw [hb5]; decide), if_pos hb6]]
                exact any_any_6 cx hD hL hb0 hb1 hb2 hb3 hb4 hb5 hb6
              | false =>
                rw [show anyP L S = (bareP L S) by rw [anyP, if_neg (by rw [hb0]; decide), if_neg (by rw [hb1]; decide), if_neg (by rw [hb2]; decide), if_neg (by rw [hb3]; decide), if_neg (by rw [hb4]; decide), if_neg (by rw [hb5]; decide), if_neg (by rw [hb6]; decide)]]
                exact any_any_7 cx hD hL hb0 hb1 hb2 hb3 hb4 hb5 hb6

set_option maxRecDepth 100000 in
set_option maxHeartbeats 4000000 in
theorem statement_of {w : World} {r : Nat} {S : LS} {P : LS → Res Tree} (hc : Calls Tryz.prog 116 #[.pointer (some ⟨r, 0, none⟩), .func (.func 192) #[.pointer (some ⟨r, 0, none⟩)] #[]] w fun e w' => Ret (P S) r (vNode w.heap.size) e w' ∧ Ext r w w') :
    Calls Tryz.prog 130 #[.pointer (some ⟨r, 0, none⟩)] w fun e w' => Ret (P S) r (vNode w.heap.size) e w' ∧ Ext r w w' := by
  have HC := hide hc
  clear hc
  go_enter Tryz.func130, Tryz.ntmps130
  go_wp2_with fail
  refine Ret.call (unhide HC) ?_ ?_
  · intro f wz hf hx
    exact ⟨rfl, Ret.inl hf, hx⟩
  intro t9 S9 v w9 hf hv cx9 hx9
  obtain ⟨kb, rfl⟩ := vNode_ptr hv
  have HP9 := hide hf
  have HV9 := hide hv
  clear hf hv
  go_wp2_with fail
  go_ret
  exact ⟨Ret.inr (unhide HP9) (unhide HV9) cx9, hx9⟩

set_option maxRecDepth 100000 in
set_option maxHeartbeats 4000000 in
theorem value_of {w : World} {r : Nat} {S : LS} (cx : Cx w r S) {P : LS → Res Tree} (hc : Calls Tryz.prog 116 #[.pointer (some ⟨r, 0, none⟩), .func (.func 117) #[] #[.pointer (some ⟨jbase r 1 + 2, 0, none⟩), .pointer (some ⟨jbase r 1, 0, none⟩), .pointer (some ⟨jbase r 1 + 1, 0, none⟩)]] w fun e w' => Ret (P S) r (vNode w.heap.size) e w' ∧ Ext r w w') :
    Calls Tryz.prog 177 #[.pointer (some ⟨r, 0, none⟩)] w fun e w' => Ret (P S) r (vNode w.heap.size) e w' ∧ Ext r w w' := by
  have c10 : w.cell? ⟨r, 10, none⟩ = some (.func (.func 117) #[] #[.pointer (some ⟨jbase r 1 + 2, 0, none⟩), .pointer (some ⟨jbase r 1, 0, none⟩), .pointer (some ⟨jbase r 1 + 1, 0, none⟩)]) := by
    rw [cx.rd.c10, cx.jn]
    rfl
  have HC := hide hc
  clear hc cx
  go_enter Tryz.func177, Tryz.ntmps177
  go_wp2_with fail
  refine Ret.call (unhide HC) ?_ ?_
  · intro f wz hf hx
    exact ⟨rfl, Ret.inl hf, hx⟩
  intro t9 S9 v w9 hf hv cx9 hx9
  obtain ⟨kb, rfl⟩ := vNode_ptr hv
  have HP9 := hide hf
  have HV9 := hide hv
  clear hf hv c10
  go_wp2_with fail
  go_ret
  exact ⟨Ret.inr (unhide HP9) (unhide HV9) cx9, hx9⟩

set_option maxRecDepth 100000 in
set_option maxHeartbeats 4000000 in
theorem deeper_full {w : World} {r : Nat} {S : LS} (cx : Cx w r S) (hD : S.dp = 25) (P : LS → Res Tree) (fv : Value) :
    Calls Tryz.prog 116 #[.pointer (some ⟨r, 0, none⟩), fv] w fun e w' => Ret (deepP P S) r (vNode w.heap.size) e w' ∧ Ext r w w' := by
  have c9 := cx.rd.c9
  have HC := hide cx
  clear cx
  have HE := hide (show deepP P S = .inl (4, S.tp) by rw [deepP, if_pos hD])
  have b0 : ((S.dp : Int) == 25) = true := by rw [beq_iff_eq]; omega
  clear hD
  go_enter Tryz.func116, Tryz.ntmps116
  go_wp2_with fail
  refine (fail_any (unhide HC).rd _).mono ?_
  rintro e w3 ⟨rfl, rfl⟩
  exact ⟨rfl, Ret.inl (unhide HE), Ext.refl _ _⟩

/-- WHAT READS AT ANY DEPTH. -/
theorem low_any (r : Nat) : ∀ (d : Nat), d ≤ 25 → LowC r (25 - d) (lower (d + 1))
  | 0, _ => ⟨lower_good 1, fun _ _ cx hd => value_of cx (deeper_full cx hd _ _), fun _ _ cx hd => statement_of (deeper_full cx hd _ _), fun _ _ cx hd => deeper_full cx hd _ _⟩
  | d + 1, h => by
    have ih := low_any r d (by omega)
    have e : 25 - d = 25 - (d + 1) + 1 := by omega
    rw [e] at ih
    exact ⟨lower_good (d + 2),
      fun _ _ cx hd => value_of cx (deeper_joined cx hd (by omega) (jo (prefixedP (lower (d + 1))) 6) (jo_good (prefixedP_good ih.good) 6) fun w S cx hd => joined_any ih 5 (by omega) w S cx hd),
      fun _ _ cx hd => statement_of (deeper_any cx hd (by omega) (anyP (lower (d + 1))) (anyP_good ih.good) fun _ _ cx hd => any_any cx hd ih),
      fun _ _ cx hd => deeper_prefixed cx hd (by omega) (prefixedP (lower (d + 1))) (prefixedP_good ih.good) fun _ _ cx hd => prefixed_any cx hd ih⟩
end Go.Proofs.YtcpjefdbgjlnnaaGreatDoor

namespace Go.Proofs.YtcpjefdbgjlnnaaGreatDoor
open Go.RowKit
attribute [local go_sem ↓] Go.wp_at_zero Go.wp_at_succ

theorem ent_method (r : Nat) : ∀ w : World, Sem.run Tryz.prog (callFunc 190 #[.pointer (some ⟨r, 0, none⟩)]) w = .ok (.enter 190 #[.pointer (some ⟨r, 0, none⟩)]) w := fun _ => by kernel_rfl
theorem ent_field (r n : Nat) : ∀ w : World, Sem.run Tryz.prog (callFunc 189 #[.pointer (some ⟨r, 0, none⟩), .int .i64 n]) w = .ok (.enter 189 #[.pointer (some ⟨r, 0, none⟩), .int .i64 n]) w := fun _ => by kernel_rfl
theorem ent_outer (r : Nat) : ∀ w : World, Sem.run Tryz.prog (callFunc 81 #[.pointer (some ⟨r, 0, none⟩)]) w = .ok (.enter 81 #[.pointer (some ⟨r, 0, none⟩)]) w := fun _ => by kernel_rfl
theorem bnd_inr2 {α β γ : Type} {t : Res α} {g : α → LS → Res β} {k : β → LS → Res γ} {a : α} {S : LS} (h : t = .inr (a, S)) : bnd (bnd t g) k = bnd (g a S) k := by rw [h]; rfl
theorem Und.len_eq {lo : Nat} {w : World} {b k : Nat} {tx un : ByteArray} {n : Int} {ln : Nat} {ts : List Tree} {ks : Value} {vs : List Value} (h : Und (fun j => lo ≤ j) w b k tx un n ln ts ks vs) : ∃ a cap, ks = .slice a ts.length cap := by
  have hl := h.len
  rcases h.row with ⟨rfl, rfl⟩ | ⟨g, cap, cur, rfl, _⟩
  · exact ⟨none, 0, by rw [← hl]; rfl⟩
  · exact ⟨some ⟨g, 0, none⟩, cap, by rw [hl]⟩

set_option maxRecDepth 100000 in
set_option maxHeartbeats 8000000 in
theorem class_any {w : World} {r D : Nat} {S : LS} (cx : Cx w r S) (hD : S.dp = D) {L : Low} (hL : LowC r D L) (hk : S.kd ≠ 0) :
    Calls Tryz.prog 128 #[.pointer (some ⟨r, 0, none⟩)] w fun e w' => Ret (classP L S) r (vNode w.heap.size) e w' ∧ Ext r w w' := by
  obtain ⟨i0, hi, hz0, hz1, hz2⟩ := info_parts infoNode
  have hr0 := cx.jc.lt
  have HL := hide hL
  clear hL
  have HX0 : Hid (Ext r w w) := Ext.refl r w
  have hd0 := hD
  have HC0 := hide cx
  clear cx
  go_enter Tryz.func128, Tryz.ntmps128
  go_wp2_with fail
  refine Ret.call (taken_any (unhide HC0) 2) ?_ ?_
  · intro f wz hf hx
    exact ⟨rfl, Ret.inl (bnd_inl hf), (unhide HX0).trans hx⟩
  intro a1 S1 v w1 hf hv cx1 hx
  obtain ⟨rfl, hu⟩ := hv
  have HU1 := hide hu
  have hon1 := take_on (unhide HC0).ok hk hf
  have hd1 : S1.dp = D := hon1.same.dp.trans hd0
  have HP1 := hide (show (classP L S) = _ from bnd_inr hf)
  have HX1 := hide ((unhide HX0).trans hx)
  have HC1 := hide cx1
  clear hf hx cx1 HC0 HX0 hd0 hu
  go_wp2_with fail
  refine Ret.call (name_any (unhide HC1)) ?_ ?_
  · intro f wz hf hx
    exact ⟨rfl, Ret.inl ((unhide HP1).trans (bnd_inl hf)), (unhide HX1).trans hx⟩
  intro s2 S2 v w2 hf hv cx2 hx
  obtain rfl : v = .string s2 := hv
  have hon2 := name_on (unhide HC1).ok hf
  have hd2 : S2.dp = D := hon2.same.dp.trans hd1
  have HP2 := hide ((unhide HP1).trans (bnd_inr hf))
  have HU2 := hide ((unhide HU1).ext hx fun j hj => by omega)
  have HX2 := hide ((unhide HX1).trans hx)
  have HC2 := hide cx2
  clear hf hx cx2 HC1 HX1 hd1 HP1 HU1
  obtain ⟨t0, hb⟩ := (unhide HU2).cells
  have dq : w2.cell? ⟨w.heap.size, 1, none⟩ = some (.string noText) := hcell hb 1
  have gq := hfroz hb 1
  clear hb
  have HU3 := hide ((unhide HU2).put 1 (.string s2) (tx' := s2) rfl)
  have HX3 := hide ((unhide HX2).setNew ⟨w.heap.size, 1, none⟩ (Nat.le_refl _) (.string s2))
  have HC3 := hide ((unhide HC2).setCell hr0 1 (.string s2))
  have hd3 := hd2
  clear HU2 HX2 HC2
  go_wp2_with fail
  refine Ret.call (accept_any (unhide HC3) tLess) ?_ ?_
  · intro f wz hf hx
    exact ⟨rfl, Ret.inl ((unhide HP2).trans (bnd_inl (bnd_inl hf))), (unhide HX3).trans hx⟩
  intro b4 S4 v w4 hf hv cx4 hx
  obtain rfl : v = .bool b4 := hv
  have hon4 := (accept_on (unhide HC3).ok hf).1
  have hd4 : S4.dp = D := hon4.same.dp.trans hd3
  have HP4 := hide ((unhide HP2).trans (bnd_inr2 hf))
  have HU4 := hide ((unhide HU3).ext hx fun j hj => by omega)
  have HX4 := hide ((unhide HX3).trans hx)
  have HC4 := hide cx4
  clear hf hx cx4 HC3 HX3 hd3 HP2 HU3
  clear dq gq hon1 hon2
  cases b4 with
  | false =>
    have HPf : Hid (classP L S = bnd (wantP tLeft S4) fun _ Sa => bnd (fieldsP 10 [] Sa) fun fs Sb => bnd (untilP tRight (methodP L) 3002 fs Sb) fun ks Sc => .inr (⟨2, s2, noText, 0, S.tl, ks⟩, Sc)) := unhide HP4
    clear HP4 hon4
    go_wp2_with fail
    refine Ret.call (want_any (unhide HC4) tLeft) ?_ ?_
    · intro f wz hf hx
      exact ⟨rfl, Ret.inl ((unhide HPf).trans (bnd_inl hf)), (unhide HX4).trans hx⟩
    intro a5 S5 v w5 hf hv cx5 hx
    obtain rfl : v = .tuple #[] := hv
    have hon5 := want_on (unhide HC4).ok hf
    have hd5 : S5.dp = D := hon5.same.dp.trans hd4
    have HP5 := hide ((unhide HPf).trans (bnd_inr hf))
    have HU5 := hide ((unhide HU4).ext hx fun j hj => by omega)
    have HX5 := hide ((unhide HX4).trans hx)
    have HC5 := hide cx5
    clear hf hx cx5 HC4 HX4 hd4 HPf HU4
    clear hon5
    go_wp2_with fail
    go_loopg [] 10 (fun gg wr => ∃ (S' : LS) (acc : List Tree) (ks : Value) (vs : List Value), Cx wr r S' ∧ S'.dp = D ∧ Hid (Und (fun j => w.heap.size ≤ j) wr w.heap.size 2 s2 noText 0 S.tl acc ks vs) ∧ Hid (Ext r w wr) ∧ gg + acc.length = 10 ∧ acc.length ≤ 8 ∧ Hid ((bnd (fieldsP gg acc S') fun fs S5 => bnd (untilP tRight (methodP L) 3002 fs S5) fun ks S6 => .inr (⟨2, s2, noText, 0, S.tl, ks⟩, S6)) = classP L S))
    case atStart => exact ⟨S5, [], _, _, unhide HC5, hd5, unhide HU5, unhide HX5, rfl, by simp, (unhide HP5).symm⟩
    case round =>
      clear HC5 hd5 HU5 HX5 HP5
      obtain ⟨S', acc, ks, vs, cx, hdp, HU, HX0, hgg, hacc, HE⟩ := hrel
      obtain ⟨f, hgf⟩ : ∃ f, gk = f + 1 := ⟨gk - 1, by omega⟩
      subst hgf
      have HE0 : Hid ((bnd (if S'.is wField = true then bnd (fieldP acc.length S') fun t S1 => fieldsP f (acc ++ [t]) S1 else .inr (acc, S')) fun fs S5 => bnd (untilP tRight (methodP L) 3002 fs S5) fun ks S6 => .inr (⟨2, s2, noText, 0, S.tl, ks⟩, S6)) = classP L S) := unhide HE
      clear HE
      cases hq : S'.is wField with
      | false =>
        have HE1 : Hid ((bnd (untilP tRight (methodP L) 3002 acc S') fun ks S6 => .inr (⟨2, s2, noText, 0, S.tl, ks⟩, S6)) = classP L S) := by
          have := unhide HE0
          rw [if_neg (by rw [hq]; decide)] at this
          exact this
        clear HE0
        go_wp2_with fail
        refine (is_c cx.rd wField hq).mono ?_
        rintro e wz ⟨rfl, rfl⟩
        clear hq
        go_wp2_with fail
        obtain ⟨fs, hfs⟩ : ∃ fs, fs = acc := ⟨_, rfl⟩
        obtain ⟨S6, hS6⟩ : ∃ S6, S6 = S' := ⟨_, rfl⟩
        subst hfs hS6
        go_loopg [] 3002 (fun gg wr => ∃ (S' : LS) (acc : List Tree) (ks : Value) (vs : List Value), Cx wr r S' ∧ S'.dp = D ∧ Hid (Und (fun j => w.heap.size ≤ j) wr w.heap.size 2 s2 noText 0 S.tl acc ks vs) ∧ Hid (Ext r w wr) ∧ 3002 ≤ gg + S'.tp ∧ acc.length ≤ 8 + S'.tp ∧ Hid ((bnd (untilP tRight (methodP L) gg acc S') fun ks S7 => .inr (⟨2, s2, noText, 0, S.tl, ks⟩, S7)) = classP L S))
        case atStart => exact ⟨S6, fs, _, _, cx, hdp, unhide HU, unhide HX0, by omega, by omega, unhide HE1⟩
        case round =>
          clear cx hdp HU HX0 HE1 hgg hacc
          obtain ⟨S', acc, ks, vs, cx, hdp, HU, HX0, hgg, hacc, HE⟩ := hrel
          have htp : S'.tp ≤ 3000 := Nat.le_trans cx.ok.tp (Nat.le_trans cx.ok.fit.pl cx.ok.fit.size)
          rename_i gm
          obtain ⟨f2, hgf⟩ : ∃ f2, gk = f2 + 1 := ⟨gk - 1, by omega⟩
          subst hgf
          have HE1 : Hid ((bnd (bnd (acceptP tRight S') fun b S1 => if b = true then .inr (acc, S1) else bnd (methodP L S1) fun t S2 => untilP tRight (methodP L) f2 (acc ++ [t]) S2) fun ks S7 => .inr (⟨2, s2, noText, 0, S.tl, ks⟩, S7)) = classP L S) := unhide HE
          clear HE
          go_wp2_with fail
          refine Ret.call (accept_any cx tRight) ?_ ?_
          · intro fl w3 hf hx
            exact ⟨rfl, Ret.inl ((unhide HE1).symm.trans (bnd_inl (bnd_inl hf))), (unhide HX0).trans hx⟩
          intro b S3 v w3 hf hv cx3 hx3
          obtain rfl : v = .bool b := hv
          have hon := accept_on cx.ok hf
          have HU3 := hide ((unhide HU).ext hx3 fun j hj => by omega)
          have HX3 := hide ((unhide HX0).trans hx3)
          have HE3 := hide ((bnd_inr2 hf).symm.trans (unhide HE1))
          clear hf HU HX0 HE1 hx3 cx
          cases b with
          | true =>
            clear hon
            go_wp2_with fail
            go_ret
            exact ⟨Ret.inr (unhide HE3).symm (unhide HU3).node cx3, unhide HX3⟩
          | false =>
            obtain rfl := hon.2.2 rfl
            clear hon
            have hvs : vs.length ≤ 3010 := by rw [(unhide HU3).len]; omega
            obtain ⟨t0, hb⟩ := (unhide HU3).cells
            have d5 : w3.cell? ⟨w.heap.size, 5, none⟩ = some ks := hcell hb 5
            have g5 := hfroz hb 5
            have hent := ent_method r
            have HU := HU3
            have HX0 := HX3
            have HC := hide cx3
            have HE : Hid ((bnd (bnd (methodP L S3) fun t S2 => untilP tRight (methodP L) f2 (acc ++ [t]) S2) fun ks S7 => .inr (⟨2, s2, noText, 0, S.tl, ks⟩, S7)) = classP L S) := unhide HE3
            clear HU3 HX3 cx3 HE3 hb
            go_wp2_with fail
            go_region_law ((first | (refine step_append_lies _ (by rfl) _ _ _ (by rfl) 0 22 i0 (.pointer none) 1 8 Tryz.underlying42 hi hz0 hz1 hz2 rfl (by decide) ks vs.length vs (by rfl) ((unhide HO2).alloc _) ⟨w2.heap.size, 0, none⟩ 1 1 [.pointer (some ⟨kb, 0, none⟩)] (by rfl) rfl (cell_one_new _ _ _) (fun u hu => by simp at hu; subst hu; rfl) (by decide) (by unfold maxLen; omega) (by omega) (Nat.zero_le _) (w2.heap.size + 1) (by simp) ?_; intro g cap w3 hown hgrow hat hlt; obtain ⟨e6, f6, HU3, HX3, HC3⟩ := kid_more rfl (unhide HU).drew (unhide HU2) hr0 (unhide HC2) (unhide HX2) (unhide HV2) _ hown hgrow hat; clear hown hgrow hat hlt) | (refine step_call rfl (by simp [Act.eval, hent, go_sem]) (Ret.call (method_any (unhide HC).drew hdp (unhide HL)) (fun f w2 hf hx => ⟨rfl, Ret.inl ((unhide HE).symm.trans (bnd_inl (bnd_inl hf))), ((unhide HX0).drew).trans hx⟩) ?_); intro t S1 v w2 hf hv cx1 hx; obtain ⟨kb, rfl⟩ := vNode_ptr hv; obtain ⟨e5, e5a, HO2, HU2⟩ := kid_call (unhide HU).drew hx (by omega); have HV2 := hide hv; have HC2 := hide cx1; have HX2 := hide (((unhide HX0).drew).trans hx); have HF := hide hf; clear hv cx1 hx hf)))
            all_goals
              have cx4 := unhide HC3
              have hon4 := methodP_good (unhide HL).good _ _ _ (unhide HC).ok (unhide HF)
              have htp4 := hon4.tp
              have hd4 := hon4.same.dp.trans hdp
              have HE4 := hide ((bnd_inr2 (unhide HF)).symm.trans (unhide HE))
              clear d5 g5 hon4 HF HE HU HX0 HC e5 e5a e6 f6
              go_wp2_with fail
              go_roundg f2
              case measure => omega
              case rel => exact ⟨_, acc ++ [t], _, _, cx4, hd4, unhide HU3, unhide HX3, by omega, by simp; omega, unhide HE4⟩
      | true =>
        have HE1 : Hid ((bnd (bnd (fieldP acc.length S') fun t S1 => fieldsP f (acc ++ [t]) S1) fun fs S5 => bnd (untilP tRight (methodP L) 3002 fs S5) fun ks S6 => .inr (⟨2, s2, noText, 0, S.tl, ks⟩, S6)) = classP L S) := by
          have := unhide HE0
          rw [if_pos hq] at this
          exact this
        have HK := hide (is_kd hq)
        clear HE0
        go_wp2_with fail
        refine (is_c cx.rd wField hq).mono ?_
        rintro e wz ⟨rfl, rfl⟩
        clear hq
        obtain ⟨ka, kcap, rfl⟩ := (unhide HU).len_eq
        have hvs : vs.length ≤ 8 := by rw [(unhide HU).len]; exact hacc
        obtain ⟨t0, hb⟩ := (unhide HU).cells
        have d5 : wr.cell? ⟨w.heap.size, 5, none⟩ = some (.slice ka acc.length kcap) := hcell hb 5
        have g5 := hfroz hb 5
        have hent := ent_field r acc.length
        have HC := hide cx
        clear hb cx
        go_wp2_with fail
        go_region_law ((first | (refine step_append_lies _ (by rfl) _ _ _ (by rfl) 0 22 i0 (.pointer none) 1 8 Tryz.underlying42 hi hz0 hz1 hz2 rfl (by decide) (.slice ka acc.length kcap) vs.length vs (by rfl) ((unhide HO2).alloc _) ⟨w2.heap.size, 0, none⟩ 1 1 [.pointer (some ⟨kb, 0, none⟩)] (by rfl) rfl (cell_one_new _ _ _) (fun u hu => by simp at hu; subst hu; rfl) (by decide) (by unfold maxLen; omega) (by omega) (Nat.zero_le _) (w2.heap.size + 1) (by simp) ?_; intro g cap w3 hown hgrow hat hlt; obtain ⟨e6, f6, HU3, HX3, HC3⟩ := kid_more rfl (unhide HU).drew (unhide HU2) hr0 (unhide HC2) (unhide HX2) (unhide HV2) _ hown hgrow hat; clear hown hgrow hat hlt) | (refine step_call rfl (by simp [Act.eval, hent, go_sem]) (Ret.call (field_any (unhide HC).drew hdp acc.length (unhide HK)) (fun f w2 hf hx => ⟨rfl, Ret.inl ((unhide HE1).symm.trans (bnd_inl (bnd_inl hf))), ((unhide HX0).drew).trans hx⟩) ?_); intro t S1 v w2 hf hv cx1 hx; obtain ⟨kb, rfl⟩ := vNode_ptr hv; obtain ⟨e5, e5a, HO2, HU2⟩ := kid_call (unhide HU).drew hx (by omega); have HV2 := hide hv; have HC2 := hide cx1; have HX2 := hide (((unhide HX0).drew).trans hx); have HF := hide hf; clear hv cx1 hx hf)))
        all_goals
          have cx4 := unhide HC3
          have hon4 := fieldP_on (unhide HC).ok (unhide HK) (unhide HF)
          have hne8 := hon4.2
          have hd4 := hon4.1.same.dp.trans hdp
          have HE4 := hide ((bnd_inr2 (unhide HF)).symm.trans (unhide HE1))
          clear d5 g5 hon4 HF HE1 HU HX0 HC e5 e5a e6 f6
          go_wp2_with fail
          go_roundg f
          case measure => omega
          case rel => exact ⟨_, acc ++ [t], _, _, cx4, hd4, unhide HU3, unhide HX3, by simp; omega, by simp; omega, unhide HE4⟩
  | true =>
    have HPt : Hid (classP L S = bnd (nameP S4) fun u S3 => bnd (wantP tLeft S3) fun _ Sa => bnd (fieldsP 10 [] Sa) fun fs Sb => bnd (untilP tRight (methodP L) 3002 fs Sb) fun ks Sc => .inr (⟨2, s2, u, 0, S.tl, ks⟩, Sc)) := unhide HP4
    clear HP4 hon4
    go_wp2_with fail
    refine Ret.call (name_any (unhide HC4)) ?_ ?_
    · intro f wz hf hx
      exact ⟨rfl, Ret.inl ((unhide HPt).trans (bnd_inl hf)), (unhide HX4).trans hx⟩
    intro s5 S5 v w5 hf hv cx5 hx
    obtain rfl : v = .string s5 := hv
    have hon5 := name_on (unhide HC4).ok hf
    have hd5 : S5.dp = D := hon5.same.dp.trans hd4
    have HP5 := hide ((unhide HPt).trans (bnd_inr hf))
    have HU5 := hide ((unhide HU4).ext hx fun j hj => by omega)
    have HX5 := hide ((unhide HX4).trans hx)
    have HC5 := hide cx5
    clear hf hx cx5 HC4 HX4 hd4 HPt HU4
    obtain ⟨t0, hb⟩ := (unhide HU5).cells
    have dq : w5.cell? ⟨w.heap.size, 2, none⟩ = some (.string noText) := hcell hb 2
    have gq := hfroz hb 2
    clear hb
    have HU6 := hide ((unhide HU5).put 2 (.string s5) (un' := s5) rfl)
    have HX6 := hide ((unhide HX5).setNew ⟨w.heap.size, 2, none⟩ (Nat.le_refl _) (.string s5))
    have HC6 := hide ((unhide HC5).setCell hr0 2 (.string s5))
    have hd6 := hd5
    clear HU5 HX5 HC5
    clear hon5
    go_wp2_with fail
    refine Ret.call (want_any (unhide HC6) tLeft) ?_ ?_
    · intro f wz hf hx
      exact ⟨rfl, Ret.inl ((unhide HP5).trans (bnd_inl hf)), (unhide HX6).trans hx⟩
    intro a7 S7 v w7 hf hv cx7 hx
    obtain rfl : v = .tuple #[] := hv
    have hon7 := want_on (unhide HC6).ok hf
    have hd7 : S7.dp = D := hon7.same.dp.trans hd6
    have HP7 := hide ((unhide HP5).trans (bnd_inr hf))
    have HU7 := hide ((unhide HU6).ext hx fun j hj => by omega)
    have HX7 := hide ((unhide HX6).trans hx)
    have HC7 := hide cx7
    clear hf hx cx7 HC6 HX6 hd6 HP5 HU6
    clear hon7
    go_wp2_with fail
    go_loopg [] 10 (fun gg wr => ∃ (S' : LS) (acc : List Tree) (ks : Value) (vs : List Value), Cx wr r S' ∧ S'.dp = D ∧ Hid (Und (fun j => w.heap.size ≤ j) wr w.heap.size 2 s2 s5 0 S.tl acc ks vs) ∧ Hid (Ext r w wr) ∧ gg + acc.length = 10 ∧ acc.length ≤ 8 ∧ Hid ((bnd (fieldsP gg acc S') fun fs S5 => bnd (untilP tRight (methodP L) 3002 fs S5) fun ks S6 => .inr (⟨2, s2, s5, 0, S.tl, ks⟩, S6)) = classP L S))
    case atStart => exact ⟨S7, [], _, _, unhide HC7, hd7, unhide HU7, unhide HX7, rfl, by simp, (unhide HP7).symm⟩
    case round =>
      clear HC7 hd7 HU7 HX7 HP7
      obtain ⟨S', acc, ks, vs, cx, hdp, HU, HX0, hgg, hacc, HE⟩ := hrel
      obtain ⟨f, hgf⟩ : ∃ f, gk = f + 1 := ⟨gk - 1, by omega⟩
      subst hgf
      have HE0 : Hid ((bnd (if S'.is wField = true then bnd (fieldP acc.length S') fun t S1 => fieldsP f (acc ++ [t]) S1 else .inr (acc, S')) fun fs S5 => bnd (untilP tRight (methodP L) 3002 fs S5) fun ks S6 => .inr (⟨2, s2, s5, 0, S.tl, ks⟩, S6)) = classP L S) := unhide HE
      clear HE
      cases hq : S'.is wField with
      | false =>
        have HE1 : Hid ((bnd (untilP tRight (methodP L) 3002 acc S') fun ks S6 => .inr (⟨2, s2, s5, 0, S.tl, ks⟩, S6)) = classP L S) := by
          have := unhide HE0
          rw [if_neg (by rw [hq]; decide)] at this
          exact this
        clear HE0
        go_wp2_with fail
        refine (is_c cx.rd wField hq).mono ?_
        rintro e wz ⟨rfl, rfl⟩
        clear hq
        go_wp2_with fail
        obtain ⟨fs, hfs⟩ : ∃ fs, fs = acc := ⟨_, rfl⟩
        obtain ⟨S6, hS6⟩ : ∃ S6, S6 = S' := ⟨_, rfl⟩
        subst hfs hS6
        go_loopg [] 3002 (fun gg wr => ∃ (S' : LS) (acc : List Tree) (ks : Value) (vs : List Value), Cx wr r S' ∧ S'.dp = D ∧ Hid (Und (fun j => w.heap.size ≤ j) wr w.heap.size 2 s2 s5 0 S.tl acc ks vs) ∧ Hid (Ext r w wr) ∧ 3002 ≤ gg + S'.tp ∧ acc.length ≤ 8 + S'.tp ∧ Hid ((bnd (untilP tRight (methodP L) gg acc S') fun ks S7 => .inr (⟨2, s2, s5, 0, S.tl, ks⟩, S7)) = classP L S))
        case atStart => exact ⟨S6, fs, _, _, cx, hdp, unhide HU, unhide HX0, by omega, by omega, unhide HE1⟩
        case round =>
          clear cx hdp HU HX0 HE1 hgg hacc
          obtain ⟨S', acc, ks, vs, cx, hdp, HU, HX0, hgg, hacc, HE⟩ := hrel
          have htp : S'.tp ≤ 3000 := Nat.le_trans cx.ok.tp (Nat.le_trans cx.ok.fit.pl cx.ok.fit.size)
          rename_i gm
          obtain ⟨f2, hgf⟩ : ∃ f2, gk = f2 + 1 := ⟨gk - 1, by omega⟩
          subst hgf
          have HE1 : Hid ((bnd (bnd (acceptP tRight S') fun b S1 => if b = true then .inr (acc, S1) else bnd (methodP L S1) fun t S2 => untilP tRight (methodP L) f2 (acc ++ [t]) S2) fun ks S7 => .inr (⟨2, s2, s5, 0, S.tl, ks⟩, S7)) = classP L S) := unhide HE
          clear HE
          go_wp2_with fail
          refine Ret.call (accept_any cx tRight) ?_ ?_
          · intro fl w3 hf hx
            exact ⟨rfl, Ret.inl ((unhide HE1).symm.trans (bnd_inl (bnd_inl hf))), (unhide HX0).trans hx⟩
          intro b S3 v w3 hf hv cx3 hx3
          obtain rfl : v = .bool b := hv
          have hon := accept_on cx.ok hf
          have HU3 := hide ((unhide HU).ext hx3 fun j hj => by omega)
          have HX3 := hide ((unhide HX0).trans hx3)
          have HE3 := hide ((bnd_inr2 hf).symm.trans (unhide HE1))
          clear hf HU HX0 HE1 hx3 cx
          cases b with
          | true =>
            clear hon
            go_wp2_with fail
            go_ret
            exact ⟨Ret.inr (unhide HE3).symm (unhide HU3).node cx3, unhide HX3⟩
          | false =>
            obtain rfl := hon.2.2 rfl
            clear hon
            have hvs : vs.length ≤ 3010 := by rw [(unhide HU3).len]; omega
            obtain ⟨t0, hb⟩ := (unhide HU3).cells
            have d5 : w3.cell? ⟨w.heap.size, 5, none⟩ = some ks := hcell hb 5
            have g5 := hfroz hb 5
            have hent := ent_method r
            have HU := HU3
            have HX0 := HX3
            have HC := hide cx3
            have HE : Hid ((bnd (bnd (methodP L S3) fun t S2 => untilP tRight (methodP L) f2 (acc ++ [t]) S2) fun ks S7 => .inr (⟨2, s2, s5, 0, S.tl, ks⟩, S7)) = classP L S) := unhide HE3
            clear HU3 HX3 cx3 HE3 hb
            go_wp2_with fail
            go_region_law ((first | (refine step_append_lies _ (by rfl) _ _ _ (by rfl) 0 22 i0 (.pointer none) 1 8 Tryz.underlying42 hi hz0 hz1 hz2 rfl (by decide) ks vs.length vs (by rfl) ((unhide HO2).alloc _) ⟨w2.heap.size, 0, none⟩ 1 1 [.pointer (some ⟨kb, 0, none⟩)] (by rfl) rfl (cell_one_new _ _ _) (fun u hu => by simp at hu; subst hu; rfl) (by decide) (by unfold maxLen; omega) (by omega) (Nat.zero_le _) (w2.heap.size + 1) (by simp) ?_; intro g cap w3 hown hgrow hat hlt; obtain ⟨e6, f6, HU3, HX3, HC3⟩ := kid_more rfl (unhide HU).drew (unhide HU2) hr0 (unhide HC2) (unhide HX2) (unhide HV2) _ hown hgrow hat; clear hown hgrow hat hlt) | (refine step_call rfl (by simp [Act.eval, hent, go_sem]) (Ret.call (method_any (unhide HC).drew hdp (unhide HL)) (fun f w2 hf hx => ⟨rfl, Ret.inl ((unhide HE).symm.trans (bnd_inl (bnd_inl hf))), ((unhide HX0).drew).trans hx⟩) ?_); intro t S1 v w2 hf hv cx1 hx; obtain ⟨kb, rfl⟩ := vNode_ptr hv; obtain ⟨e5, e5a, HO2, HU2⟩ := kid_call (unhide HU).drew hx (by omega); have HV2 := hide hv; have HC2 := hide cx1; have HX2 := hide (((unhide HX0).drew).trans hx); have HF := hide hf; clear hv cx1 hx hf)))
            all_goals
              have cx4 := unhide HC3
              have hon4 := methodP_good (unhide HL).good _ _ _ (unhide HC).ok (unhide HF)
              have htp4 := hon4.tp
              have hd4 := hon4.same.dp.trans hdp
              have HE4 := hide ((bnd_inr2 (unhide HF)).symm.trans (unhide HE))
              clear d5 g5 hon4 HF HE HU HX0 HC e5 e5a e6 f6
              go_wp2_with fail
              go_roundg f2
              case measure => omega
              case rel => exact ⟨_, acc ++ [t], _, _, cx4, hd4, unhide HU3, unhide HX3, by omega, by simp; omega, unhide HE4⟩
      | true =>
        have HE1 : Hid ((bnd (bnd (fieldP acc.length S') fun t S1 => fieldsP f (acc ++ [t]) S1) fun fs S5 => bnd (untilP tRight (methodP L) 3002 fs S5) fun ks S6 => .inr (⟨2, s2, s5, 0, S.tl, ks⟩, S6)) = classP L S) := by
          have := unhide HE0
          rw [if_pos hq] at this
          exact this
        have HK := hide (is_kd hq)
        clear HE0
        go_wp2_with fail
        refine (is_c cx.rd wField hq).mono ?_
        rintro e wz ⟨rfl, rfl⟩
        clear hq
        obtain ⟨ka, kcap, rfl⟩ := (unhide HU).len_eq
        have hvs : vs.length ≤ 8 := by rw [(unhide HU).len]; exact hacc
        obtain ⟨t0, hb⟩ := (unhide HU).cells
        have d5 : wr.cell? ⟨w.heap.size, 5, none⟩ = some (.slice ka acc.length kcap) := hcell hb 5
        have g5 := hfroz hb 5
        have hent := ent_field r acc.length
        have HC := hide cx
        clear hb cx
        go_wp2_with fail
        go_region_law ((first | (refine step_append_lies _ (by rfl) _ _ _ (by rfl) 0 22 i0 (.pointer none) 1 8 Tryz.underlying42 hi hz0 hz1 hz2 rfl (by decide) (.slice ka acc.length kcap) vs.length vs (by rfl) ((unhide HO2).alloc _) ⟨w2.heap.size, 0, none⟩ 1 1 [.pointer (some ⟨kb, 0, none⟩)] (by rfl) rfl (cell_one_new _ _ _) (fun u hu => by simp at hu; subst hu; rfl) (by decide) (by unfold maxLen; omega) (by omega) (Nat.zero_le _) (w2.heap.size + 1) (by simp) ?_; intro g cap w3 hown hgrow hat hlt; obtain ⟨e6, f6, HU3, HX3, HC3⟩ := kid_more rfl (unhide HU).drew (unhide HU2) hr0 (unhide HC2) (unhide HX2) (unhide HV2) _ hown hgrow hat; clear hown hgrow hat hlt) | (refine step_call rfl (by simp [Act.eval, hent, go_sem]) (Ret.call (field_any (unhide HC).drew hdp acc.length (unhide HK)) (fun f w2 hf hx => ⟨rfl, Ret.inl ((unhide HE1).symm.trans (bnd_inl (bnd_inl hf))), ((unhide HX0).drew).trans hx⟩) ?_); intro t S1 v w2 hf hv cx1 hx; obtain ⟨kb, rfl⟩ := vNode_ptr hv; obtain ⟨e5, e5a, HO2, HU2⟩ := kid_call (unhide HU).drew hx (by omega); have HV2 := hide hv; have HC2 := hide cx1; have HX2 := hide (((unhide HX0).drew).trans hx); have HF := hide hf; clear hv cx1 hx hf)))
        all_goals
          have cx4 := unhide HC3
          have hon4 := fieldP_on (unhide HC).ok (unhide HK) (unhide HF)
          have hne8 := hon4.2
          have hd4 := hon4.1.same.dp.trans hdp
          have HE4 := hide ((bnd_inr2 (unhide HF)).symm.trans (unhide HE1))
          clear d5 g5 hon4 HF HE1 HU HX0 HC e5 e5a e6 f6
          go_wp2_with fail
          go_roundg f
          case measure => omega
          case rel => exact ⟨_, acc ++ [t], _, _, cx4, hd4, unhide HU3, unhide HX3, by simp; omega, by simp; omega, unhide HE4⟩

end Go.Proofs.YtcpjefdbgjlnnaaGreatDoor

namespace Go.Proofs.YtcpjefdbgjlnnaaGreatDoor
open Go.RowKit
attribute [local go_sem ↓] Go.wp_at_zero Go.wp_at_succ

set_option maxRecDepth 100000 in
set_option maxHeartbeats 8000000 in
theorem outermost_any_0 {w : World} {r D : Nat} {S : LS} (cx : Cx w r S) (hD : S.dp = D) {L : Low} (hL : LowC r D L) (hb0 : S.is wClass = true) :
    Calls Tryz.prog 81 #[.pointer (some ⟨r, 0, none⟩)] w fun e w' => Ret (classP L S) r (vNode w.heap.size) e w' ∧ Ext r w w' := by
  obtain ⟨i0, hi, hz0, hz1, hz2⟩ := info_parts infoNode
  have hr0 := cx.jc.lt
  have HL := hide hL
  clear hL
  have HX0 : Hid (Ext r w w) := Ext.refl r w
  have hd0 := hD
  have HC0 := hide cx
  clear cx
  go_enter Tryz.func81, Tryz.ntmps81
  have hk := is_kd hb0
  go_wp2_with fail
  refine (is_c (unhide HC0).rd wClass hb0).mono ?_
  rintro e wz ⟨rfl, rfl⟩
  go_wp2_with fail
  refine Ret.call (class_any (unhide HC0) hd0 (unhide HL) hk) ?_ ?_
  · intro f wz hf hx
    exact ⟨rfl, Ret.inl (hf), (unhide HX0).trans hx⟩
  intro t9 S9 v w9 hf hv cx9 hx9
  obtain ⟨kb, rfl⟩ := vNode_ptr hv
  have HP9 := hide (hf)
  have HV9 := hide hv
  clear hf hv
  go_wp2_with fail
  go_ret
  exact ⟨Ret.inr (unhide HP9) (unhide HV9) cx9, (unhide HX0).trans hx9⟩

set_option maxRecDepth 100000 in
set_option maxHeartbeats 8000000 in
theorem outermost_any_1 {w : World} {r D : Nat} {S : LS} (cx : Cx w r S) (hD : S.dp = D) {L : Low} (hL : LowC r D L) (hb0 : S.is wClass = false) (hb1 : S.is wFn = true) :
    Calls Tryz.prog 81 #[.pointer (some ⟨r, 0, none⟩)] w fun e w' => Ret (fnP L S) r (vNode w.heap.size) e w' ∧ Ext r w w' := by
  obtain ⟨i0, hi, hz0, hz1, hz2⟩ := info_parts infoNode
  have hr0 := cx.jc.lt
  have HL := hide hL
  clear hL
  have HX0 : Hid (Ext r w w) := Ext.refl r w
  have hd0 := hD
  have HC0 := hide cx
  clear cx
  go_enter Tryz.func81, Tryz.ntmps81
  have hk := is_kd hb1
  go_wp2_with fail
  refine (is_c (unhide HC0).rd wClass hb0).mono ?_
  rintro e wz ⟨rfl, rfl⟩
  go_wp2_with fail
  refine (is_c (unhide HC0).rd wFn hb1).mono ?_
  rintro e wz ⟨rfl, rfl⟩
  go_wp2_with fail
  refine Ret.call (fn_any (unhide HC0) hd0 (unhide HL) hk) ?_ ?_
  · intro f wz hf hx
    exact ⟨rfl, Ret.inl (hf), (unhide HX0).trans hx⟩
  intro t9 S9 v w9 hf hv cx9 hx9
  obtain ⟨kb, rfl⟩ := vNode_ptr hv
  have HP9 := hide (hf)
  have HV9 := hide hv
  clear hf hv
  go_wp2_with fail
  go_ret
  exact ⟨Ret.inr (unhide HP9) (unhide HV9) cx9, (unhide HX0).trans hx9⟩

set_option maxRecDepth 100000 in
set_option maxHeartbeats 8000000 in
theorem outermost_any_2 {w : World} {r D : Nat} {S : LS} (cx : Cx w r S) (hD : S.dp = D) {L : Low} (hL : LowC r D L) (hb0 : S.is wClass = false) (hb1 : S.is wFn = false) :
    Calls Tryz.prog 81 #[.pointer (some ⟨r, 0, none⟩)] w fun e w' => Ret (L.S S) r (vNode w.heap.size) e w' ∧ Ext r w w' := by
  obtain ⟨i0, hi, hz0, hz1, hz2⟩ := info_parts infoNode
  have hr0 := cx.jc.lt
  have HL := hide hL
  clear hL
  have HX0 : Hid (Ext r w w) := Ext.refl r w
  have hd0 := hD
  have HC0 := hide cx
  clear cx
  go_enter Tryz.func81, Tryz.ntmps81
  go_wp2_with fail
  refine (is_c (unhide HC0).rd wClass hb0).mono ?_
  rintro e wz ⟨rfl, rfl⟩
  go_wp2_with fail
  refine (is_c (unhide HC0).rd wFn hb1).mono ?_
  rintro e wz ⟨rfl, rfl⟩
  go_wp2_with fail
  refine Ret.call ((unhide HL).s _ _ (unhide HC0) hd0) ?_ ?_
  · intro f wz hf hx
    exact ⟨rfl, Ret.inl (hf), (unhide HX0).trans hx⟩
  intro t9 S9 v w9 hf hv cx9 hx9
  obtain ⟨kb, rfl⟩ := vNode_ptr hv
  have HP9 := hide (hf)
  have HV9 := hide hv
  clear hf hv
  go_wp2_with fail
  go_ret
  exact ⟨Ret.inr (unhide HP9) (unhide HV9) cx9, (unhide HX0).trans hx9⟩

theorem outermost_any {w : World} {r D : Nat} {S : LS} (cx : Cx w r S) (hD : S.dp = D) {L : Low} (hL : LowC r D L) :
    Calls Tryz.prog 81 #[.pointer (some ⟨r, 0, none⟩)] w fun e w' => Ret (outermostP L S) r (vNode w.heap.size) e w' ∧ Ext r w w' := by
  cases hb0 : S.is wClass with
  | true =>
    rw [show outermostP L S = (classP L S) by rw [outermostP, if_pos hb0]]
    exact outermost_any_0 cx hD hL hb0
  | false =>
    cases hb1 : S.is wFn with
    | true =>
      rw [show outermostP L S = (fnP L S) by rw [outermostP, if_neg (by rw [hb0]; decide), if_pos hb1]]
      exact outermost_any_1 cx hD hL hb0 hb1
    | false =>
      rw [show outermostP L S = (L.S S) by rw [outermostP, if_neg (by rw [hb0]; decide), if_neg (by rw [hb1]; decide)]]
      exact outermost_any_2 cx hD hL hb0 hb1

set_option maxRecDepth 100000 in
set_option maxHeartbeats 8000000 in
theorem program_any {w : World} {r D : Nat} {S : LS} (cx : Cx w r S) (hD : S.dp = D) {L : Low} (hL : LowC r D L) :
    Calls Tryz.prog 49 #[.pointer (some ⟨r, 0, none⟩)] w fun e w' => Ret (programP L S) r (vNode w.heap.size) e w' ∧ Ext r w w' := by
  obtain ⟨i0, hi, hz0, hz1, hz2⟩ := info_parts infoNode
  have hr0 := cx.jc.lt
  have HL := hide hL
  clear hL
  have HX0 : Hid (Ext r w w) := Ext.refl r w
  have hd0 := hD
  have HC0 := hide cx
  clear cx
  go_enter Tryz.func49, Tryz.ntmps49
  go_wp2_with fail
  refine (start_calls (unhide HC0) 1).mono ?_
  rintro e w1 ⟨v, rfl, ⟨rfl, hu⟩, cx1, hx⟩
  have HU1 := hide hu
  have HX1 := hide ((unhide HX0).trans hx)
  have HC1 := hide cx1
  have hd1 := hd0
  clear hu hx cx1 HC0 HX0
  go_wp2_with fail
  go_loopg [] 3002 (fun gg wr => ∃ (S' : LS) (acc : List Tree) (ks : Value) (vs : List Value), Cx wr r S' ∧ S'.dp = D ∧ Hid (Und (fun j => w.heap.size ≤ j) wr w.heap.size 1 noText noText 0 S.tl acc ks vs) ∧ Hid (Ext r w wr) ∧ 3002 ≤ gg + S'.tp ∧ acc.length ≤ S'.tp ∧ Hid ((bnd (progLoop L gg acc S') fun ks S1 => .inr (nd 1 S.tl ks, S1)) = programP L S))
  case atStart => exact ⟨S, [], _, _, unhide HC1, hd1, unhide HU1, unhide HX1, by omega, by simp, rfl⟩
  case round =>
    clear HC1 hd1 HU1 HX1
    obtain ⟨S', acc, ks, vs, cx, hdp, HU, HX0, hgg, hacc, HE⟩ := hrel
    have htp : S'.tp ≤ 3000 := Nat.le_trans cx.ok.tp (Nat.le_trans cx.ok.fit.pl cx.ok.fit.size)
    obtain ⟨f, hgf⟩ : ∃ f, gk = f + 1 := ⟨gk - 1, by omega⟩
    subst hgf
    have c3 := cx.rd.c3
    by_cases hz : S'.kd = 0
    · have HE1 : Hid (Sum.inr (nd 1 S.tl acc, S') = programP L S) := by
        have := unhide HE
        rw [progLoop, if_pos hz] at this
        exact this
      have b0 : ((S'.kd : Int) != 0) = false := by rw [bne_eq_false_iff_eq]; omega
      clear hz HE
      go_wp2_with fail
      go_ret
      exact ⟨Ret.inr (unhide HE1).symm (unhide HU).node cx, unhide HX0⟩
    · have HE : Hid ((bnd (bnd (outermostP L S') fun t S1 => progLoop L f (acc ++ [t]) S1) fun ks S1 => .inr (nd 1 S.tl ks, S1)) = programP L S) := by
        have := unhide HE
        rw [progLoop, if_neg hz] at this
        exact this
      have b0 : ((S'.kd : Int) != 0) = true := by rw [bne_iff_ne]; omega
      have hvs : vs.length ≤ 3000 := by rw [(unhide HU).len]; omega
      obtain ⟨t0, hb⟩ := (unhide HU).cells
      have d5 : wr.cell? ⟨w.heap.size, 5, none⟩ = some ks := hcell hb 5
      have g5 := hfroz hb 5
      have hent := ent_outer r
      have HC := hide cx
      clear cx hb hz
      go_wp2_with fail
      go_region_law ((first | (refine step_append_lies _ (by rfl) _ _ _ (by rfl) 0 22 i0 (.pointer none) 1 8 Tryz.underlying42 hi hz0 hz1 hz2 rfl (by decide) ks vs.length vs (by rfl) ((unhide HO2).alloc _) ⟨w2.heap.size, 0, none⟩ 1 1 [.pointer (some ⟨kb, 0, none⟩)] (by rfl) rfl (cell_one_new _ _ _) (fun u hu => by simp at hu; subst hu; rfl) (by decide) (by unfold maxLen; omega) (by omega) (Nat.zero_le _) (w2.heap.size + 1) (by simp) ?_; intro g cap w3 hown hgrow hat hlt; obtain ⟨e6, f6, HU3, HX3, HC3⟩ := kid_more rfl (unhide HU).drew (unhide HU2) hr0 (unhide HC2) (unhide HX2) (unhide HV2) _ hown hgrow hat; clear hown hgrow hat hlt) | (refine step_call rfl (by simp [Act.eval, hent, go_sem]) (Ret.call (outermost_any (unhide HC).drew hdp (unhide HL)) (fun f w2 hf hx => ⟨rfl, Ret.inl ((unhide HE).symm.trans (bnd_inl (bnd_inl hf))), ((unhide HX0).drew).trans hx⟩) ?_); intro t S1 v w2 hf hv cx1 hx; obtain ⟨kb, rfl⟩ := vNode_ptr hv; obtain ⟨e5, e5a, HO2, HU2⟩ := kid_call (unhide HU).drew hx (by omega); have HV2 := hide hv; have HC2 := hide cx1; have HX2 := hide (((unhide HX0).drew).trans hx); have HF := hide hf; clear hv cx1 hx hf)))
      all_goals
        have cx4 := unhide HC3
        have hon4 := outermostP_good (unhide HL).good _ _ _ (unhide HC).ok (unhide HF)
        have htp4 := hon4.tp
        have hd4 := hon4.same.dp.trans hdp
        have HE4 := hide ((congrArg (fun z => bnd z fun ks S1 => (.inr (nd 1 S.tl ks, S1) : Res Tree)) (bnd_inr (unhide HF))).symm.trans (unhide HE))
        clear d5 g5 hon4 HF HE HU HX0 HC e5 e5a e6 f6 c3
        go_wp2_with fail
        go_roundg f
        case measure => omega
        case rel => exact ⟨_, acc ++ [t], _, _, cx4, hd4, unhide HU3, unhide HX3, by omega, by simp; omega, unhide HE4⟩

end Go.Proofs.YtcpjefdbgjlnnaaGreatDoor
