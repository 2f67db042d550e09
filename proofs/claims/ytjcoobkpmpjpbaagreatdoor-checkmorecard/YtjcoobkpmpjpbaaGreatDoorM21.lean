/-
  What is wrong with a node, whatever is within it.
  What is wrong with a node, whatever is within it.
  What is wrong with a node, of any kind; and what code within it is told.
-/
import Derived.Test.YtjcoobkpmpjpbaaGreatDoorM20
namespace Go.Proofs.YtjcoobkpmpjpbaaGreatDoor
open Go.RowKit Go.Maps
set_option linter.unusedSimpArgs false

set_option maxRecDepth 100000 in
set_option maxHeartbeats 8000000 in
theorem itself_name {M : Nat} {w : World} {tp sp sb N : Nat} {T : Tab} {vc vf : Value} {env : List (List ByteArray)} (h : PlA M w tp sp sb N T vc vf env) (cls : Option Nat) (fn : Bool) {b : Nat} {t : Tree} (hn : NodeAt (fun k => k < M) w (.pointer (some ⟨b, 0, none⟩)) t) (hs : t.text.size ≤ 300) (hk : t.kind = 24) {R : Bool} (hR : itselfP T cls fn env t = R) :
    Calls Tryz.prog 44 #[plV tp sp cls fn, .pointer (some ⟨b, 0, none⟩)] w fun e w' => ItPost w R e w' := by
  obtain ⟨ks, hv⟩ := node_view hn
  unfold plV
  have HR := hide (show seesP env t.text = R by rw [← hR]; unfold itselfP; simp [hk])
  clear hR
  generalize clsV cls = cv
  have hb1 := (Below.refl w.heap.size w).alloc (Nat.le_refl _) (.cells #[.pointer (some ⟨tp, 0, none⟩), .pointer (some ⟨sp, 0, none⟩), .int .i64 cv, .bool fn] 49)
  have p1 := hcell (hnew w (.cells #[.pointer (some ⟨tp, 0, none⟩), .pointer (some ⟨sp, 0, none⟩), .int .i64 cv, .bool fn] 49)) 1
  simp only [List.getElem?_toArray, List.getElem?_cons_zero, List.getElem?_cons_succ] at p1
  have HP1 := hide (h.keep hb1)
  have HN1 := hide (node_keep hn fun k hk => hb1.block k (Nat.lt_of_lt_of_le hk h.hM))
  have HB1 := hide hb1
  have hsz : w.heap.size < (w.alloc (.cells #[.pointer (some ⟨tp, 0, none⟩), .pointer (some ⟨sp, 0, none⟩), .int .i64 cv, .bool fn] 49)).heap.size := by simp
  have e0 := hcellB hb1 hv.c0
  have e1 := hcellB hb1 hv.c1
  have e4 := hcellB hb1 hv.c4
  rw [hk] at e0
  obtain ⟨f, hsc, hse⟩ := (unhide HP1).scope.sees
  have hNs : N ≤ (w.alloc (.cells #[.pointer (some ⟨tp, 0, none⟩), .pointer (some ⟨sp, 0, none⟩), .int .i64 cv, .bool fn] 49)).heap.size := by obtain ⟨f, o, r, _, _, _, h3, _⟩ := (unhide HP1).scope; exact h3
  have s1 : (w.alloc (.cells #[.pointer (some ⟨tp, 0, none⟩), .pointer (some ⟨sp, 0, none⟩), .int .i64 cv, .bool fn] 49)).cell? ⟨sp, 1, none⟩ = some f := hcell hsc 1
  obtain ⟨F, cp, rfl, hent, _⟩ := sees_any hs env N f _ hse hNs
  have HSE := hide hse
  have HNS := hide hNs
  clear h hn hv hb1 hse hNs hsc
  go_enter Tryz.func44, Tryz.ntmps44
  go_wp2_with fail
  generalize w.alloc (.cells #[.pointer (some ⟨tp, 0, none⟩), .pointer (some ⟨sp, 0, none⟩), .int .i64 cv, .bool fn] 49) = W at *
  refine wp_region_held_drew (S := fun w' => w'.cell? ⟨w.heap.size, 1, none⟩ = some (.pointer (some ⟨sp, 0, none⟩)) ∧ w'.cell? ⟨b, 1, none⟩ = some (.string t.text) ∧ w'.cell? ⟨sp, 1, none⟩ = some (.func (.func F) #[] cp)) (by kernel_rfl) ⟨p1, e1, s1⟩ (fun hHeld => ?_)
  refine wpAnyH_take (i := 0) (oi := { dst := some 31, op := _, type := _, pos := _, after := _, guard := _ }) (v := ?_) rfl (by kernel_rfl) (by kernel_rfl) (by kernel_rfl) (fun _ _ _ h => h) (Or.inl ⟨by rfl, ?_⟩) (by assumption) ?_
  case refine_2 =>
    intro w hSw
    try dsimp only at hSw
    go_simp
    try with_reducible rfl
  simp only [Act.put, List.setIfInBounds_toArray, List.set_cons_zero, List.set_cons_succ]
  refine wpAnyH_take (i := 1) (oi := { dst := some 32, op := _, type := _, pos := _, after := _, guard := _ }) (v := ?_) rfl (by kernel_rfl) (by kernel_rfl) (by kernel_rfl) (fun _ _ _ h => h) (Or.inl ⟨by rfl, ?_⟩) (by assumption) ?_
  case refine_2 =>
    intro w hSw
    try dsimp only at hSw
    go_simp
    try with_reducible rfl
  simp only [Act.put, List.setIfInBounds_toArray, List.set_cons_zero, List.set_cons_succ]
  refine wpAnyH_take (i := 2) (oi := { dst := some 33, op := _, type := _, pos := _, after := _, guard := _ }) (v := ?_) rfl (by kernel_rfl) (by kernel_rfl) (by kernel_rfl) (fun _ _ _ h => h) (Or.inl ⟨by rfl, ?_⟩) (by assumption) ?_
  case refine_2 =>
    intro w hSw
    try dsimp only at hSw
    go_simp
    try with_reducible rfl
  simp only [Act.put, List.setIfInBounds_toArray, List.set_cons_zero, List.set_cons_succ]
  refine wpAnyH_take (i := 3) (oi := { dst := some 34, op := _, type := _, pos := _, after := _, guard := _ }) (v := ?_) rfl (by kernel_rfl) (by kernel_rfl) (by kernel_rfl) (fun _ _ _ h => h) (Or.inl ⟨by rfl, ?_⟩) (by assumption) ?_
  case refine_2 =>
    intro w hSw
    try dsimp only at hSw
    go_simp
    try with_reducible rfl
  simp only [Act.put, List.setIfInBounds_toArray, List.set_cons_zero, List.set_cons_succ]
  refine wpAnyH_take (i := 4) (oi := { dst := some 35, op := _, type := _, pos := _, after := _, guard := _ }) (v := ?_) rfl (by kernel_rfl) (by kernel_rfl) (by kernel_rfl) (fun _ _ _ h => h) (Or.inl ⟨by rfl, ?_⟩) (by assumption) ?_
  case refine_2 =>
    intro w hSw
    try dsimp only at hSw
    go_simp
    try with_reducible rfl
  simp only [Act.put, List.setIfInBounds_toArray, List.set_cons_zero, List.set_cons_succ]
  refine wpAnyH_take (i := 5) (oi := { dst := some 36, op := _, type := _, pos := _, after := _, guard := _ }) (v := ?_) rfl (by kernel_rfl) (by kernel_rfl) (by kernel_rfl) (fun _ _ _ h => h) (Or.inl ⟨by rfl, ?_⟩) (by assumption) ?_
  case refine_2 =>
    intro w hSw
    try dsimp only at hSw
    go_simp
    try with_reducible rfl
  simp only [Act.put, List.setIfInBounds_toArray, List.set_cons_zero, List.set_cons_succ]
  refine wpAnyH_take (i := 6) (oi := { dst := some 37, op := _, type := _, pos := _, after := _, guard := _ }) (v := ?_) rfl (by kernel_rfl) (by kernel_rfl) (by kernel_rfl) (fun _ _ _ h => h) (Or.inl ⟨by rfl, ?_⟩) (by assumption) ?_
  case refine_2 =>
    intro w hSw
    try dsimp only at hSw
    go_simp
    try with_reducible rfl
  simp only [Act.put, List.setIfInBounds_toArray, List.set_cons_zero, List.set_cons_succ]
  refine wpAnyH_take (i := 7) (oi := { dst := some 38, op := _, type := _, pos := _, after := _, guard := _ }) (v := ?_) rfl (by kernel_rfl) (by kernel_rfl) (by kernel_rfl) (fun _ _ _ h => h) (Or.inl ⟨by rfl, ?_⟩) (by assumption) ?_
  case refine_2 =>
    intro w hSw
    try dsimp only at hSw
    go_simp
    try with_reducible rfl
  simp only [Act.put, List.setIfInBounds_toArray, List.set_cons_zero, List.set_cons_succ]
  refine wpAnyH_take (i := 8) (oi := { dst := some 39, op := _, type := _, pos := _, after := _, guard := _ }) (v := ?_) rfl (by kernel_rfl) (by kernel_rfl) (by kernel_rfl) (fun _ _ _ h => h) (Or.inl ⟨by rfl, ?_⟩) (by assumption) ?_
  case refine_2 =>
    intro w hSw
    try dsimp only at hSw
    go_simp
    try with_reducible rfl
  simp only [Act.put, List.setIfInBounds_toArray, List.set_cons_zero, List.set_cons_succ]
  obtain ⟨F', cp', eF, _, hcall⟩ := sees_any hs env N (.func (.func F) #[] cp) W.drew ((unhide HSE).keep fun k hk => rfl) (unhide HNS)
  cases eF
  refine wpAnyH_ready (rs := [9]) (by kernel_rfl) (by simp) ?_
  refine AllReadyH.cons (o := { dst := some 40, op := _, type := _, pos := _, after := _, guard := _ }) rfl (fun K hK => ?_) AllReadyH.nil
  refine step_enterG (by kernel_rfl) (by simp [Act.eval, hent, go_sem]) (hcall.mono ?_)
  rintro e W3 ⟨rfl, hb3⟩
  have HB3 := hide ((Below.drew (unhide HB1)).trans (hb3.mono (unhide HB1).size))
  have z1 := cellB hb3 p1 hsz
  have z2 := hcellB hb3 e1
  have z3 := hcellB hb3 s1
  have z4 := hcellB hb3 e4
  clear hb3
  refine hK.out _ _ ⟨z1, z2, z3⟩ (fun hHeld9 => ?_)
  clear hK K
  simp only [Act.put, List.setIfInBounds_toArray, List.set_cons_zero, List.set_cons_succ]
  cases hsee : seesP env t.text with
  | false =>
    have HSEE := hide hsee
    clear hsee
    refine wpAnyH_take (i := 10) (oi := { dst := some 41, op := _, type := _, pos := _, after := _, guard := _ }) (v := ?_) rfl (by kernel_rfl) (by kernel_rfl) (by kernel_rfl) (fun _ _ _ h => h) (Or.inl ⟨by rfl, ?_⟩) (by assumption) ?_
    case refine_2 =>
      intro w hSw
      try dsimp only at hSw
      go_simp
      try with_reducible rfl
    simp only [Act.put, List.setIfInBounds_toArray, List.set_cons_zero, List.set_cons_succ]
    refine wpAnyH_done (by kernel_rfl) ?_ _
    go_wp2_with fail
    refine (wrong_any 5 z4).mono ?_
    rintro e W9 ⟨hb9, pp, rfl⟩
    have HB9 := hide ((unhide HB3).trans (hb9.mono (unhide HB3).size))
    clear hb9
    go_wp2_with fail
    go_ret
    exact ⟨unhide HB9, Or.inr ⟨by rw [← unhide HR, unhide HSEE], _, _, rfl⟩⟩
  | true =>
    have HSEE := hide hsee
    clear hsee
    refine wpAnyH_take (i := 10) (oi := { dst := some 41, op := _, type := _, pos := _, after := _, guard := _ }) (v := ?_) rfl (by kernel_rfl) (by kernel_rfl) (by kernel_rfl) (fun _ _ _ h => h) (Or.inl ⟨by rfl, ?_⟩) (by assumption) ?_
    case refine_2 =>
      intro w hSw
      try dsimp only at hSw
      go_simp
      try with_reducible rfl
    simp only [Act.put, List.setIfInBounds_toArray, List.set_cons_zero, List.set_cons_succ]
    refine wpAnyH_done (by kernel_rfl) ?_ _
    go_wp2_with fail
    go_ret
    exact ⟨unhide HB3, Or.inl ⟨by rw [← unhide HR, unhide HSEE], rfl⟩⟩

set_option maxRecDepth 100000 in
set_option maxHeartbeats 8000000 in
theorem itself_call {M : Nat} {w : World} {tp sp sb N : Nat} {T : Tab} {vc vf : Value} {env : List (List ByteArray)} (h : PlA M w tp sp sb N T vc vf env) (cls : Option Nat) (fn : Bool) {b : Nat} {t : Tree} (hn : NodeAt (fun k => k < M) w (.pointer (some ⟨b, 0, none⟩)) t) {c : Tree} {r : List Tree} (hks : t.kids = c :: r) (hs : c.text.size ≤ 300) (hwf : ∀ g ∈ T.fns, ∃ p q, g.kids = p :: q) (hk : t.kind = 45) {R : Bool} (hR : itselfP T cls fn env t = R) :
    Calls Tryz.prog 44 #[plV tp sp cls fn, .pointer (some ⟨b, 0, none⟩)] w fun e w' => ItPost w R e w' := by
  obtain ⟨ks, hv⟩ := node_view hn
  unfold plV
  have HR := hide (show (if callsFnP env t then callOk T t else true) = R by rw [← hR]; unfold itselfP callOk; simp [hk]; rfl)
  clear hR
  have hb1 := (Below.refl w.heap.size w).alloc (Nat.le_refl _) (.cells #[.pointer (some ⟨tp, 0, none⟩), .pointer (some ⟨sp, 0, none⟩), .int .i64 (clsV cls), .bool fn] 49)
  have p0 := hcell (hnew w (.cells #[.pointer (some ⟨tp, 0, none⟩), .pointer (some ⟨sp, 0, none⟩), .int .i64 (clsV cls), .bool fn] 49)) 0
  simp only [List.getElem?_toArray, List.getElem?_cons_zero, List.getElem?_cons_succ] at p0
  have HP1 := hide (h.keep hb1)
  have HN1 := hide (node_keep hn fun k hk => hb1.block k (Nat.lt_of_lt_of_le hk h.hM))
  have HB1 := hide hb1
  have hsz : w.heap.size < (w.alloc (.cells #[.pointer (some ⟨tp, 0, none⟩), .pointer (some ⟨sp, 0, none⟩), .int .i64 (clsV cls), .bool fn] 49)).heap.size := by simp
  have e0 := hcellB hb1 hv.c0
  have e1 := hcellB hb1 hv.c1
  have e4 := hcellB hb1 hv.c4
  rw [hk] at e0
  have HKS := hide hks
  have HWF := hide hwf
  clear h hn hv hb1 hks hwf
  go_enter Tryz.func44, Tryz.ntmps44
  go_wp2_with fail
  refine (show Calls Tryz.prog 47 #[.agg #[.pointer (some ⟨tp, 0, none⟩), .pointer (some ⟨sp, 0, none⟩), .int .i64 (clsV cls), .bool fn], .pointer (some ⟨b, 0, none⟩)] _ _ from callsFn_any (unhide HP1) cls fn (unhide HN1) (unhide HKS) hs).mono ?_
  rintro e W2 ⟨rfl, hb2⟩
  have HP2 := hide ((unhide HP1).keep hb2)
  have HN2 := hide (node_keep (unhide HN1) fun k hk => hb2.block k (Nat.lt_of_lt_of_le hk (unhide HP1).hM))
  have HB2 := hide ((unhide HB1).trans (hb2.mono (unhide HB1).size))
  have y := hcell (hnew w (.cells #[.pointer (some ⟨tp, 0, none⟩), .pointer (some ⟨sp, 0, none⟩), .int .i64 (clsV cls), .bool fn] 49)) 0
  have q0 := hcellB hb2 (hcell (hnew w (.cells #[.pointer (some ⟨tp, 0, none⟩), .pointer (some ⟨sp, 0, none⟩), .int .i64 (clsV cls), .bool fn] 49)) 0)
  have q1 := hcellB hb2 (hcell (hnew w (.cells #[.pointer (some ⟨tp, 0, none⟩), .pointer (some ⟨sp, 0, none⟩), .int .i64 (clsV cls), .bool fn] 49)) 1)
  have q2 := hcellB hb2 (hcell (hnew w (.cells #[.pointer (some ⟨tp, 0, none⟩), .pointer (some ⟨sp, 0, none⟩), .int .i64 (clsV cls), .bool fn] 49)) 2)
  have q3 := hcellB hb2 (hcell (hnew w (.cells #[.pointer (some ⟨tp, 0, none⟩), .pointer (some ⟨sp, 0, none⟩), .int .i64 (clsV cls), .bool fn] 49)) 3)
  clear hb2 y
  cases hcf : callsFnP env t with
  | false =>
    have HCF := hide hcf
    clear hcf
    go_wp2_with fail
    go_ret
    exact ⟨unhide HB2, Or.inl ⟨by rw [← unhide HR, if_neg (by rw [unhide HCF]; decide)], rfl⟩⟩
  | true =>
    have HCF := hide hcf
    clear hcf
    go_wp2_with fail
    refine (show Calls Tryz.prog 71 #[.agg #[.pointer (some ⟨tp, 0, none⟩), .pointer (some ⟨sp, 0, none⟩), .int .i64 (clsV cls), .bool fn], .pointer (some ⟨b, 0, none⟩)] _ _ from callOfFn_any (unhide HP2) cls fn (unhide HN2) (unhide HKS) (unhide HWF) (R := R) (by rw [← unhide HR, if_pos (unhide HCF)])).mono ?_
    rintro e W3 ⟨hb3, hr⟩
    have HB3 := hide ((unhide HB2).trans (hb3.mono (unhide HB2).size))
    clear hb3
    rcases hr with ⟨rfl, rfl⟩ | ⟨rfl, tt, pp, rfl⟩
    · go_wp2_with fail
      go_ret
      exact ⟨unhide HB3, Or.inl ⟨rfl, rfl⟩⟩
    · go_wp2_with fail
      go_ret
      exact ⟨unhide HB3, Or.inr ⟨rfl, _, _, rfl⟩⟩
end Go.Proofs.YtjcoobkpmpjpbaaGreatDoor

namespace Go.Proofs.YtjcoobkpmpjpbaaGreatDoor
open Go.RowKit Go.Maps
set_option linter.unusedSimpArgs false

set_option maxRecDepth 100000 in
set_option maxHeartbeats 8000000 in
theorem itself_var {M : Nat} {w : World} {tp sp sb N : Nat} {T : Tab} {vc vf : Value} {env : List (List ByteArray)} (h : PlA M w tp sp sb N T vc vf env) (cls : Option Nat) (fn : Bool) {b : Nat} {t : Tree} (hn : NodeAt (fun k => k < M) w (.pointer (some ⟨b, 0, none⟩)) t) (hs : t.text.size ≤ 300) (hk : t.kind = 8) {R : Bool} (hR : itselfP T cls fn env t = R) :
    Calls Tryz.prog 44 #[plV tp sp cls fn, .pointer (some ⟨b, 0, none⟩)] w fun e w' => ItPost w R e w' := by
  obtain ⟨ks, hv⟩ := node_view hn
  unfold plV
  have HR := hide (show (!hasName (env.headD []) t.text) = R by rw [← hR]; unfold itselfP; simp [hk])
  clear hR
  generalize clsV cls = cv
  have hb1 := (Below.refl w.heap.size w).alloc (Nat.le_refl _) (.cells #[.pointer (some ⟨tp, 0, none⟩), .pointer (some ⟨sp, 0, none⟩), .int .i64 cv, .bool fn] 49)
  have p1 := hcell (hnew w (.cells #[.pointer (some ⟨tp, 0, none⟩), .pointer (some ⟨sp, 0, none⟩), .int .i64 cv, .bool fn] 49)) 1
  simp only [List.getElem?_toArray, List.getElem?_cons_zero, List.getElem?_cons_succ] at p1
  have HP1 := hide (h.keep hb1)
  have HN1 := hide (node_keep hn fun k hk => hb1.block k (Nat.lt_of_lt_of_le hk h.hM))
  have HB1 := hide hb1
  have hsz : w.heap.size < (w.alloc (.cells #[.pointer (some ⟨tp, 0, none⟩), .pointer (some ⟨sp, 0, none⟩), .int .i64 cv, .bool fn] 49)).heap.size := by simp
  have e0 := hcellB hb1 hv.c0
  have e1 := hcellB hb1 hv.c1
  have e4 := hcellB hb1 hv.c4
  rw [hk] at e0
  obtain ⟨f, hsc, _⟩ := (unhide HP1).scope.sees
  have s0 : (w.alloc (.cells #[.pointer (some ⟨tp, 0, none⟩), .pointer (some ⟨sp, 0, none⟩), .int .i64 cv, .bool fn] 49)).cell? ⟨sp, 0, none⟩ = some (.map (some sb)) := hcell hsc 0
  have HO := hide (unhide HP1).scope.own
  clear h hn hv hb1 hsc
  go_enter Tryz.func44, Tryz.ntmps44
  go_wp2_with fail
  generalize w.alloc (.cells #[.pointer (some ⟨tp, 0, none⟩), .pointer (some ⟨sp, 0, none⟩), .int .i64 cv, .bool fn] 49) = W at *
  cases hh : hasName (env.headD []) t.text with
  | true =>
    have HH := hide hh
    have lk := (unhide HO).look hs
    rw [hh] at lk
    have HLK := hide (fun (X : World) (hX : X.heap[sb]? = W.heap[sb]?) => show (Go.Instr.lookup 66 (.map (some sb)) (.string t.text) true).run Tryz.prog X = .ok (.tuple #[.agg #[], .bool true]) X by have := ((unhide HO).move hX).look hs; rw [hh] at this; exact this)
    clear hh lk
    refine wp_region_held_drew (S := fun w' => w'.cell? ⟨w.heap.size, 1, none⟩ = some (.pointer (some ⟨sp, 0, none⟩)) ∧ w'.cell? ⟨sp, 0, none⟩ = some (.map (some sb)) ∧ w'.cell? ⟨b, 1, none⟩ = some (.string t.text) ∧ (Go.Instr.lookup 66 (.map (some sb)) (.string t.text) true).run Tryz.prog w' = .ok (.tuple #[.agg #[], .bool true]) w') (by kernel_rfl) ⟨p1, s0, e1, unhide HLK _ rfl⟩ (fun hHeld => ?_)
    refine wpAnyH_take (i := 0) (oi := { dst := some 14, op := _, type := _, pos := _, after := _, guard := _ }) (v := ?_) rfl (by kernel_rfl) (by kernel_rfl) (by kernel_rfl) (fun _ _ _ h => h) (Or.inl ⟨by rfl, ?_⟩) (by assumption) ?_
    case refine_2 =>
      intro w hSw
      try dsimp only at hSw
      go_simp
      try with_reducible rfl
    simp only [Act.put, List.setIfInBounds_toArray, List.set_cons_zero, List.set_cons_succ]
    refine wpAnyH_take (i := 1) (oi := { dst := some 15, op := _, type := _, pos := _, after := _, guard := _ }) (v := ?_) rfl (by kernel_rfl) (by kernel_rfl) (by kernel_rfl) (fun _ _ _ h => h) (Or.inl ⟨by rfl, ?_⟩) (by assumption) ?_
    case refine_2 =>
      intro w hSw
      try dsimp only at hSw
      go_simp
      try with_reducible rfl
    simp only [Act.put, List.setIfInBounds_toArray, List.set_cons_zero, List.set_cons_succ]
    refine wpAnyH_take (i := 2) (oi := { dst := some 16, op := _, type := _, pos := _, after := _, guard := _ }) (v := ?_) rfl (by kernel_rfl) (by kernel_rfl) (by kernel_rfl) (fun _ _ _ h => h) (Or.inl ⟨by rfl, ?_⟩) (by assumption) ?_
    case refine_2 =>
      intro w hSw
      try dsimp only at hSw
      go_simp
      try with_reducible rfl
    simp only [Act.put, List.setIfInBounds_toArray, List.set_cons_zero, List.set_cons_succ]
    refine wpAnyH_take (i := 3) (oi := { dst := some 17, op := _, type := _, pos := _, after := _, guard := _ }) (v := ?_) rfl (by kernel_rfl) (by kernel_rfl) (by kernel_rfl) (fun _ _ _ h => h) (Or.inl ⟨by rfl, ?_⟩) (by assumption) ?_
    case refine_2 =>
      intro w hSw
      try dsimp only at hSw
      go_simp
      try with_reducible rfl
    simp only [Act.put, List.setIfInBounds_toArray, List.set_cons_zero, List.set_cons_succ]
    refine wpAnyH_take (i := 4) (oi := { dst := some 18, op := _, type := _, pos := _, after := _, guard := _ }) (v := ?_) rfl (by kernel_rfl) (by kernel_rfl) (by kernel_rfl) (fun _ _ _ h => h) (Or.inl ⟨by rfl, ?_⟩) (by assumption) ?_
    case refine_2 =>
      intro w hSw
      try dsimp only at hSw
      go_simp
      try with_reducible rfl
    simp only [Act.put, List.setIfInBounds_toArray, List.set_cons_zero, List.set_cons_succ]
    refine wpAnyH_take (i := 5) (oi := { dst := some 19, op := _, type := _, pos := _, after := _, guard := _ }) (v := ?_) rfl (by kernel_rfl) (by kernel_rfl) (by kernel_rfl) (fun _ _ _ h => h) (Or.inl ⟨by rfl, ?_⟩) (by assumption) ?_
    case refine_2 =>
      intro w hSw
      try dsimp only at hSw
      go_simp
      try with_reducible rfl
    simp only [Act.put, List.setIfInBounds_toArray, List.set_cons_zero, List.set_cons_succ]
    refine wpAnyH_take (i := 6) (oi := { dst := some 20, op := _, type := _, pos := _, after := _, guard := _ }) (v := ?_) rfl (by kernel_rfl) (by kernel_rfl) (by kernel_rfl) (fun _ _ _ h => h) (Or.inl ⟨by rfl, ?_⟩) (by assumption) ?_
    case refine_2 =>
      intro w hSw
      try dsimp only at hSw
      go_simp
      try with_reducible rfl
    simp only [Act.put, List.setIfInBounds_toArray, List.set_cons_zero, List.set_cons_succ]
    refine wpAnyH_take (i := 7) (oi := { dst := some 21, op := _, type := _, pos := _, after := _, guard := _ }) (v := ?_) rfl (by kernel_rfl) (by kernel_rfl) (by kernel_rfl) (fun _ _ _ h => h) (Or.inl ⟨by rfl, ?_⟩) (by assumption) ?_
    case refine_2 =>
      intro w hSw
      try dsimp only at hSw
      go_simp
      try with_reducible rfl
    simp only [Act.put, List.setIfInBounds_toArray, List.set_cons_zero, List.set_cons_succ]
    refine wpAnyH_take (i := 8) (oi := { dst := some 22, op := _, type := _, pos := _, after := _, guard := _ }) (v := ?_) rfl (by kernel_rfl) (by kernel_rfl) (by kernel_rfl) (fun _ _ _ h => h) (Or.inl ⟨by rfl, ?_⟩) (by assumption) ?_
    case refine_2 =>
      intro w hSw
      try dsimp only at hSw
      go_simp
      try with_reducible rfl
    simp only [Act.put, List.setIfInBounds_toArray, List.set_cons_zero, List.set_cons_succ]
    refine wpAnyH_take (i := 9) (oi := { dst := some 23, op := _, type := _, pos := _, after := _, guard := _ }) (v := ?_) rfl (by kernel_rfl) (by kernel_rfl) (by kernel_rfl) (fun _ _ _ h => h) (Or.inl ⟨by rfl, ?_⟩) (by assumption) ?_
    case refine_2 =>
      intro w hSw
      try dsimp only at hSw
      go_simp
      try with_reducible rfl
    simp only [Act.put, List.setIfInBounds_toArray, List.set_cons_zero, List.set_cons_succ]
    refine wpAnyH_take (i := 10) (oi := { dst := some 13, op := _, type := _, pos := _, after := _, guard := _ }) (v := ?_) rfl (by kernel_rfl) (by kernel_rfl) (by kernel_rfl) (fun _ _ _ h => h) (Or.inl ⟨by rfl, ?_⟩) (by assumption) ?_
    case refine_2 =>
      intro w hSw
      try dsimp only at hSw
      go_simp
      try with_reducible rfl
    simp only [Act.put, List.setIfInBounds_toArray, List.set_cons_zero, List.set_cons_succ]
    refine wpAnyH_take (i := 11) (oi := { dst := some 24, op := _, type := _, pos := _, after := _, guard := _ }) (v := ?_) rfl (by kernel_rfl) (by kernel_rfl) (by kernel_rfl) (fun _ _ _ h => h) (Or.inl ⟨by rfl, ?_⟩) (by assumption) ?_
    case refine_2 =>
      intro w hSw
      try dsimp only at hSw
      go_simp
      try with_reducible rfl
    simp only [Act.put, List.setIfInBounds_toArray, List.set_cons_zero, List.set_cons_succ]
    refine wpAnyH_take (i := 12) (oi := { dst := some 25, op := _, type := _, pos := _, after := _, guard := _ }) (v := ?_) rfl (by kernel_rfl) (by kernel_rfl) (by kernel_rfl) (fun _ _ _ h => h) (Or.inl ⟨by rfl, ?_⟩) (by assumption) ?_
    case refine_2 =>
      intro w hSw
      try dsimp only at hSw
      go_simp
      try with_reducible rfl
    simp only [Act.put, List.setIfInBounds_toArray, List.set_cons_zero, List.set_cons_succ]
    have hba := fun o => (Below.refl W.heap.size W.drew).alloc (Nat.le_refl _) o
    refine wpAnyH_ready (rs := [13]) (by kernel_rfl) (by simp) ?_
    refine AllReadyH.cons (o := { dst := some 5, op := _, type := _, pos := _, after := _, guard := _ }) rfl (fun K hK => ?_) AllReadyH.nil
    go_simp
    refine hK.out _ _ ⟨hcellB (w := W.drew) (hba _) p1, hcellB (w := W.drew) (hba _) s0, hcellB (w := W.drew) (hba _) e1, unhide HLK _ ((hba _).block _ (unhide HO).lt)⟩ (fun hHeld13 => ?_)
    clear hK K
    refine wpAnyH_ready (rs := [14]) (by kernel_rfl) (by simp) ?_
    refine AllReadyH.cons (o := { dst := none, op := _, type := _, pos := _, after := _, guard := _ }) rfl (fun K hK => ?_) AllReadyH.nil
    go_simp
    refine hK.out _ _ ⟨hcellB (w := W.drew) (hba _) p1, hcellB (w := W.drew) (hba _) s0, hcellB (w := W.drew) (hba _) e1, unhide HLK _ ((hba _).block _ (unhide HO).lt)⟩ (fun hHeld14 => ?_)
    clear hK K
    refine wpAnyH_take (i := 15) (oi := { dst := some 6, op := _, type := _, pos := _, after := _, guard := _ }) (v := ?_) rfl (by kernel_rfl) (by kernel_rfl) (by kernel_rfl) (fun _ _ _ h => h) (Or.inl ⟨by rfl, ?_⟩) (by assumption) ?_
    case refine_2 =>
      intro w hSw
      try dsimp only at hSw
      go_simp
      try with_reducible rfl
    simp only [Act.put, List.setIfInBounds_toArray, List.set_cons_zero, List.set_cons_succ]
    refine wpAnyH_done (by kernel_rfl) ?_ _
    clear hHeld hHeld13 hHeld14
    go_wp2_with fail
    have HBA := hide ((Below.drew (unhide HB1)).trans ((hba (.cells #[] 101)).mono (unhide HB1).size))
    have x4 := hcellB (w := W.drew) (hba (.cells #[] 101)) e4
    refine (wrong_any 9 x4).mono ?_
    rintro e W9 ⟨hb9, pp, rfl⟩
    have HB9 := hide ((unhide HBA).trans (hb9.mono (unhide HBA).size))
    clear hb9
    go_wp2_with fail
    go_ret
    exact ⟨unhide HB9, Or.inr ⟨by rw [← unhide HR, unhide HH]; rfl, _, _, rfl⟩⟩
  | false =>
    have HH := hide hh
    have lk := (unhide HO).look hs
    rw [hh] at lk
    have HLK := hide (fun (X : World) (hX : X.heap[sb]? = W.heap[sb]?) => show (Go.Instr.lookup 66 (.map (some sb)) (.string t.text) true).run Tryz.prog X = .ok (.tuple #[.agg #[], .bool false]) X by have := ((unhide HO).move hX).look hs; rw [hh] at this; exact this)
    clear hh lk
    refine wp_region_held_drew (S := fun w' => w'.cell? ⟨w.heap.size, 1, none⟩ = some (.pointer (some ⟨sp, 0, none⟩)) ∧ w'.cell? ⟨sp, 0, none⟩ = some (.map (some sb)) ∧ w'.cell? ⟨b, 1, none⟩ = some (.string t.text) ∧ (Go.Instr.lookup 66 (.map (some sb)) (.string t.text) true).run Tryz.prog w' = .ok (.tuple #[.agg #[], .bool false]) w') (by kernel_rfl) ⟨p1, s0, e1, unhide HLK _ rfl⟩ (fun hHeld => ?_)
    refine wpAnyH_take (i := 0) (oi := { dst := some 14, op := _, type := _, pos := _, after := _, guard := _ }) (v := ?_) rfl (by kernel_rfl) (by kernel_rfl) (by kernel_rfl) (fun _ _ _ h => h) (Or.inl ⟨by rfl, ?_⟩) (by assumption) ?_
    case refine_2 =>
      intro w hSw
      try dsimp only at hSw
      go_simp
      try with_reducible rfl
    simp only [Act.put, List.setIfInBounds_toArray, List.set_cons_zero, List.set_cons_succ]
    refine wpAnyH_take (i := 1) (oi := { dst := some 15, op := _, type := _, pos := _, after := _, guard := _ }) (v := ?_) rfl (by kernel_rfl) (by kernel_rfl) (by kernel_rfl) (fun _ _ _ h => h) (Or.inl ⟨by rfl, ?_⟩) (by assumption) ?_
    case refine_2 =>
      intro w hSw
      try dsimp only at hSw
      go_simp
      try with_reducible rfl
    simp only [Act.put, List.setIfInBounds_toArray, List.set_cons_zero, List.set_cons_succ]
    refine wpAnyH_take (i := 2) (oi := { dst := some 16, op := _, type := _, pos := _, after := _, guard := _ }) (v := ?_) rfl (by kernel_rfl) (by kernel_rfl) (by kernel_rfl) (fun _ _ _ h => h) (Or.inl ⟨by rfl, ?_⟩) (by assumption) ?_
    case refine_2 =>
      intro w hSw
      try dsimp only at hSw
      go_simp
      try with_reducible rfl
    simp only [Act.put, List.setIfInBounds_toArray, List.set_cons_zero, List.set_cons_succ]
    refine wpAnyH_take (i := 3) (oi := { dst := some 17, op := _, type := _, pos := _, after := _, guard := _ }) (v := ?_) rfl (by kernel_rfl) (by kernel_rfl) (by kernel_rfl) (fun _ _ _ h => h) (Or.inl ⟨by rfl, ?_⟩) (by assumption) ?_
    case refine_2 =>
      intro w hSw
      try dsimp only at hSw
      go_simp
      try with_reducible rfl
    simp only [Act.put, List.setIfInBounds_toArray, List.set_cons_zero, List.set_cons_succ]
    refine wpAnyH_take (i := 4) (oi := { dst := some 18, op := _, type := _, pos := _, after := _, guard := _ }) (v := ?_) rfl (by kernel_rfl) (by kernel_rfl) (by kernel_rfl) (fun _ _ _ h => h) (Or.inl ⟨by rfl, ?_⟩) (by assumption) ?_
    case refine_2 =>
      intro w hSw
      try dsimp only at hSw
      go_simp
      try with_reducible rfl
    simp only [Act.put, List.setIfInBounds_toArray, List.set_cons_zero, List.set_cons_succ]
    refine wpAnyH_take (i := 5) (oi := { dst := some 19, op := _, type := _, pos := _, after := _, guard := _ }) (v := ?_) rfl (by kernel_rfl) (by kernel_rfl) (by kernel_rfl) (fun _ _ _ h => h) (Or.inl ⟨by rfl, ?_⟩) (by assumption) ?_
    case refine_2 =>
      intro w hSw
      try dsimp only at hSw
      go_simp
      try with_reducible rfl
    simp only [Act.put, List.setIfInBounds_toArray, List.set_cons_zero, List.set_cons_succ]
    refine wpAnyH_take (i := 6) (oi := { dst := some 20, op := _, type := _, pos := _, after := _, guard := _ }) (v := ?_) rfl (by kernel_rfl) (by kernel_rfl) (by kernel_rfl) (fun _ _ _ h => h) (Or.inl ⟨by rfl, ?_⟩) (by assumption) ?_
    case refine_2 =>
      intro w hSw
      try dsimp only at hSw
      go_simp
      try with_reducible rfl
    simp only [Act.put, List.setIfInBounds_toArray, List.set_cons_zero, List.set_cons_succ]
    refine wpAnyH_take (i := 7) (oi := { dst := some 21, op := _, type := _, pos := _, after := _, guard := _ }) (v := ?_) rfl (by kernel_rfl) (by kernel_rfl) (by kernel_rfl) (fun _ _ _ h => h) (Or.inl ⟨by rfl, ?_⟩) (by assumption) ?_
    case refine_2 =>
      intro w hSw
      try dsimp only at hSw
      go_simp
      try with_reducible rfl
    simp only [Act.put, List.setIfInBounds_toArray, List.set_cons_zero, List.set_cons_succ]
    refine wpAnyH_take (i := 8) (oi := { dst := some 22, op := _, type := _, pos := _, after := _, guard := _ }) (v := ?_) rfl (by kernel_rfl) (by kernel_rfl) (by kernel_rfl) (fun _ _ _ h => h) (Or.inl ⟨by rfl, ?_⟩) (by assumption) ?_
    case refine_2 =>
      intro w hSw
      try dsimp only at hSw
      go_simp
      try with_reducible rfl
    simp only [Act.put, List.setIfInBounds_toArray, List.set_cons_zero, List.set_cons_succ]
    refine wpAnyH_take (i := 9) (oi := { dst := some 23, op := _, type := _, pos := _, after := _, guard := _ }) (v := ?_) rfl (by kernel_rfl) (by kernel_rfl) (by kernel_rfl) (fun _ _ _ h => h) (Or.inl ⟨by rfl, ?_⟩) (by assumption) ?_
    case refine_2 =>
      intro w hSw
      try dsimp only at hSw
      go_simp
      try with_reducible rfl
    simp only [Act.put, List.setIfInBounds_toArray, List.set_cons_zero, List.set_cons_succ]
    refine wpAnyH_take (i := 10) (oi := { dst := some 13, op := _, type := _, pos := _, after := _, guard := _ }) (v := ?_) rfl (by kernel_rfl) (by kernel_rfl) (by kernel_rfl) (fun _ _ _ h => h) (Or.inl ⟨by rfl, ?_⟩) (by assumption) ?_
    case refine_2 =>
      intro w hSw
      try dsimp only at hSw
      go_simp
      try with_reducible rfl
    simp only [Act.put, List.setIfInBounds_toArray, List.set_cons_zero, List.set_cons_succ]
    refine wpAnyH_take (i := 11) (oi := { dst := some 24, op := _, type := _, pos := _, after := _, guard := _ }) (v := ?_) rfl (by kernel_rfl) (by kernel_rfl) (by kernel_rfl) (fun _ _ _ h => h) (Or.inl ⟨by rfl, ?_⟩) (by assumption) ?_
    case refine_2 =>
      intro w hSw
      try dsimp only at hSw
      go_simp
      try with_reducible rfl
    simp only [Act.put, List.setIfInBounds_toArray, List.set_cons_zero, List.set_cons_succ]
    refine wpAnyH_take (i := 12) (oi := { dst := some 25, op := _, type := _, pos := _, after := _, guard := _ }) (v := ?_) rfl (by kernel_rfl) (by kernel_rfl) (by kernel_rfl) (fun _ _ _ h => h) (Or.inl ⟨by rfl, ?_⟩) (by assumption) ?_
    case refine_2 =>
      intro w hSw
      try dsimp only at hSw
      go_simp
      try with_reducible rfl
    simp only [Act.put, List.setIfInBounds_toArray, List.set_cons_zero, List.set_cons_succ]
    have hba := fun o => (Below.refl W.heap.size W.drew).alloc (Nat.le_refl _) o
    refine wpAnyH_ready (rs := [13]) (by kernel_rfl) (by simp) ?_
    refine AllReadyH.cons (o := { dst := some 5, op := _, type := _, pos := _, after := _, guard := _ }) rfl (fun K hK => ?_) AllReadyH.nil
    go_simp
    refine hK.out _ _ ⟨hcellB (w := W.drew) (hba _) p1, hcellB (w := W.drew) (hba _) s0, hcellB (w := W.drew) (hba _) e1, unhide HLK _ ((hba _).block _ (unhide HO).lt)⟩ (fun hHeld13 => ?_)
    clear hK K
    refine wpAnyH_ready (rs := [14]) (by kernel_rfl) (by simp) ?_
    refine AllReadyH.cons (o := { dst := none, op := _, type := _, pos := _, after := _, guard := _ }) rfl (fun K hK => ?_) AllReadyH.nil
    go_simp
    refine hK.out _ _ ⟨hcellB (w := W.drew) (hba _) p1, hcellB (w := W.drew) (hba _) s0, hcellB (w := W.drew) (hba _) e1, unhide HLK _ ((hba _).block _ (unhide HO).lt)⟩ (fun hHeld14 => ?_)
    clear hK K
    refine wpAnyH_take (i := 15) (oi := { dst := some 6, op := _, type := _, pos := _, after := _, guard := _ }) (v := ?_) rfl (by kernel_rfl) (by kernel_rfl) (by kernel_rfl) (fun _ _ _ h => h) (Or.inl ⟨by rfl, ?_⟩) (by assumption) ?_
    case refine_2 =>
      intro w hSw
      try dsimp only at hSw
      go_simp
      try with_reducible rfl
    simp only [Act.put, List.setIfInBounds_toArray, List.set_cons_zero, List.set_cons_succ]
    refine wpAnyH_done (by kernel_rfl) ?_ _
    clear hHeld hHeld13 hHeld14
    go_wp2_with fail
    have HBA := hide ((Below.drew (unhide HB1)).trans ((hba (.cells #[] 101)).mono (unhide HB1).size))
    go_ret
    exact ⟨unhide HBA, Or.inl ⟨by rw [← unhide HR, unhide HH]; rfl, rfl⟩⟩
end Go.Proofs.YtjcoobkpmpjpbaaGreatDoor

namespace Go.Proofs.YtjcoobkpmpjpbaaGreatDoor
open Go.RowKit Go.Maps

theorem itself_any {M : Nat} {w : World} {tp sp sb N : Nat} {T : Tab} {vc vf : Value} {env : List (List ByteArray)} (h : PlA M w tp sp sb N T vc vf env) {cls : Option Nat} (hcls : ClsOk T.cs cls) (fn : Bool) {b : Nat} {t : Tree} (hn : NodeAt (fun k => k < M) w (.pointer (some ⟨b, 0, none⟩)) t) (hw : Wf t) (hwc : ∀ c ∈ T.cs, Wf c) (hwf : ∀ g ∈ T.fns, ∃ p q, g.kids = p :: q) :
    Calls Tryz.prog 44 #[plV tp sp cls fn, .pointer (some ⟨b, 0, none⟩)] w fun e w' => ItPost w (itselfP T cls fn env t) e w' := by
  have hs := hw.here.2.1
  by_cases h8 : t.kind = 8
  · exact itself_var h cls fn hn hs h8 rfl
  by_cases h24 : t.kind = 24
  · exact itself_name h cls fn hn hs h24 rfl
  by_cases h45 : t.kind = 45
  · cases e : t.kids with
    | nil => exact absurd e (hw.here.1.2.2 h45)
    | cons c r => exact itself_call h cls fn hn e (hw.kid (by rw [e]; exact List.mem_cons_self ..)).here.2.1 hwf h45 rfl
  by_cases h23 : t.kind = 23
  · exact itself_this h cls fn hn h23 rfl
  by_cases h26 : t.kind = 26
  · exact itself_super h cls fn hn hcls h26 rfl
  by_cases h25 : t.kind = 25
  · exact itself_new h cls fn hn hwc h25 rfl
  by_cases h12 : t.kind = 12
  · exact itself_return h cls fn hn h12 rfl
  exact itself_other h cls fn hn h8 h24 h45 h23 h26 h25 h12 rfl

/-- No higher than f. -/
def Lowt : Nat → Tree → Prop
  | 0, _ => False
  | f + 1, t => ∀ k ∈ t.kids, Lowt f k
theorem Lowt.up : ∀ {f : Nat} {t : Tree}, Lowt f t → Lowt (f + 1) t
  | _ + 1, _, h => fun k hk => Lowt.up (h k hk)
theorem Lowt.mono {f g : Nat} {t : Tree} (h : Lowt f t) (hl : f ≤ g) : Lowt g t := by
  obtain ⟨d, rfl⟩ := Nat.le.dest hl
  clear hl
  induction d with
  | zero => exact h
  | succ d ih => exact ih.up
def manyL (l : List Tree) : Nat := (l.map Tree.many).sum
def ownN (env : List (List ByteArray)) : Nat := (env.headD []).length
/-- What comes of a node, or of a row: its names are in the scope, or something is wrong. -/
def NdPost (w : World) (sp b N n : Nat) (env : List (List ByteArray)) (r : Option (List (List ByteArray))) (e : Ending) (w' : World) : Prop := w.grownBy w' (some b) ∧ ∃ env', ScopeAt w' N sp b env' ∧ ownN env' ≤ ownN env + n ∧ ((r = some env' ∧ e = .returned .nilIface) ∨ (r = none ∧ ∃ tt pp, e = .returned (.iface tt pp)))
theorem PlA.grown {M : Nat} {w w' : World} {tp sp b N : Nat} {T : Tab} {vc vf : Value} {env env' : List (List ByteArray)} (h : PlA M w tp sp b N T vc vf env) (hg : w.grownBy w' (some b)) (hs : ScopeAt w' N sp b env') : PlA M w' tp sp b N T vc vf env' :=
  ⟨h.tab.keep fun k hk => hg.block k (Nat.lt_of_lt_of_le hk h.hM) (fun e => by have := Option.some.inj e; have := h.hb; omega), hs, Nat.le_trans h.hM hg.size, h.hb⟩
theorem grown_of_below {w w' : World} {b : Nat} (h : Below w.heap.size w w') : w.grownBy w' (some b) := ⟨h.os, h.tape, h.output, h.size, fun k hk _ => h.block k hk⟩
theorem PlA.lt {M : Nat} {w : World} {tp sp b N : Nat} {T : Tab} {vc vf : Value} {env : List (List ByteArray)} (h : PlA M w tp sp b N T vc vf env) : b < w.heap.size := h.scope.own.lt
theorem node_grown {M : Nat} {w w' : World} {b : Nat} {v : Value} {t : Tree} (h : NodeAt (fun k => k < M) w v t) (hg : w.grownBy w' (some b)) (hM : M ≤ w.heap.size) (hb : M ≤ b) : NodeAt (fun k => k < M) w' v t := node_keep h fun k hk => hg.block k (Nat.lt_of_lt_of_le hk hM) (fun e => by have := Option.some.inj e; omega)
theorem list_grown {M : Nat} {w w' : World} {b : Nat} {v : Value} {l : List Tree} (h : ListAt M w v l) (hg : w.grownBy w' (some b)) (hM : M ≤ w.heap.size) (hb : M ≤ b) : ListAt M w' v l := h.keep fun k hk => hg.block k (Nat.lt_of_lt_of_le hk hM) (fun e => by have := Option.some.inj e; omega)
/-- The contract of a node, at a height. -/
def NodeOk (M tp : Nat) (T : Tab) (vc vf : Value) (f : Nat) (cls : Option Nat) (fn : Bool) : Prop := ∀ (w : World) (sp b N : Nat) (env : List (List ByteArray)) (bn : Nat) (t : Tree), PlA M w tp sp b N T vc vf env → NodeAt (fun k => k < M) w (.pointer (some ⟨bn, 0, none⟩)) t → Lowt f t → Wf t → ownN env + t.many ≤ 1000000 → Calls Tryz.prog 30 #[plV tp sp cls fn, .pointer (some ⟨bn, 0, none⟩)] w fun e w' => NdPost w sp b N t.many env (nodeP T f cls fn env t) e w'

theorem allP_snoc (g : List (List ByteArray) → Tree → Option (List (List ByteArray))) : ∀ (l : List Tree) (env env' : List (List ByteArray)) (r : List Tree), allP g env l = some env' → allP g env (l ++ r) = allP g env' r
  | [], _, _, _, h => by cases h; rfl
  | t :: l, env, env', r, h => by
    rw [List.cons_append]
    rw [allP] at h ⊢
    cases q : g env t with
    | none => rw [q] at h; cases h
    | some e1 =>
      rw [q] at h
      exact allP_snoc g l e1 env' r h
theorem drop_cons {l : List Tree} {i : Nat} {t : Tree} (h : l[i]? = some t) : l.drop i = t :: l.drop (i + 1) := by
  obtain ⟨h1, h2⟩ := List.getElem?_eq_some_iff.1 h
  rw [List.drop_eq_getElem_cons h1, h2]

/-- Nothing has turned but places. -/
def ButPl (w w' : World) : Prop := ∀ k, k < w.heap.size → (∀ cs fr, w.heap[k]? ≠ some (.cells cs 49 fr)) → w'.heap[k]? = w.heap[k]?
theorem ButPl.cells {w w' : World} (h : ButPl w w') {k : Nat} {cs : Array Value} {t : TypeId} {fr : Nat × Nat} (hk : w.heap[k]? = some (.cells cs t fr)) (ht : t ≠ 49) : w'.heap[k]? = some (.cells cs t fr) :=
  (h k (Array.getElem?_eq_some_iff.1 hk).1 fun cs' fr' e => by
    rw [hk] at e
    cases e
    exact ht rfl).trans hk
theorem ButPl.names {w w' : World} (h : ButPl w w') {b : Nat} {o : List ByteArray} (hn : NamesAt w b o) : NamesAt w' b o := hn.move (by
  obtain ⟨D, ⟨es, clock, h1, h2⟩, h3⟩ := hn
  exact h b (Array.getElem?_eq_some_iff.1 h1).1 fun cs' fr' e => by
    rw [h1] at e
    cases e)
theorem SeesAt.but {w w' : World} (hk : ButPl w w') : ∀ {env : List (List ByteArray)} {N : Nat} {f : Value}, SeesAt w N f env → SeesAt w' N f env
  | [], _, _, h => h
  | o :: r, N, f, h => by
    obtain ⟨c1, c2, b, f', N', h1, h2, h3, h4, h5, h6, h7, h8, h9⟩ := h
    exact ⟨c1, c2, b, f', N', h1, hk.cells h2 (by decide), hk.cells h3 (by decide), hk.names h4, h5, h6, h7, h8, h9.but hk⟩
theorem ScopeAt.but {w w' : World} {N sp b : Nat} {env : List (List ByteArray)} (h : ScopeAt w N sp b env) (hk : ButPl w w') (hs : w.heap.size ≤ w'.heap.size) : ScopeAt w' N sp b env := by
  obtain ⟨f, o, r, rfl, h1, h2, h3, c1, c2, f', N', a1, a2, a3, a4, a5, a6, a7, a8, a9⟩ := h
  exact ⟨f, o, r, rfl, hk.cells h1 (by decide), h2, Nat.le_trans h3 hs, c1, c2, f', N', a1, hk.cells a2 (by decide), hk.cells a3 (by decide), hk.names a4, a5, a6, a7, a8, a9.but hk⟩
/-- A cell of a place is set. -/
theorem ButPl.set {w w' : World} (h : ButPl w w') {k i : Nat} (hk : ∃ cs fr, w.heap[k]? = some (.cells cs 49 fr)) (v : Value) : ButPl w (w'.setCell ⟨k, i, none⟩ v) := fun j hj hne => by
  obtain ⟨cs, fr, e⟩ := hk
  have : j ≠ k := fun q => hne cs fr (by rw [q]; exact e)
  exact (hother v this).trans (h j hj hne)
theorem ButPl.refl (w : World) : ButPl w w := fun _ _ _ => rfl
theorem size_set {w : World} {a : Addr} {v : Value} : (w.setCell a v).heap.size = w.heap.size := by simp [World.setCell]

set_option maxRecDepth 100000 in
set_option maxHeartbeats 4000000 in
/-- A place within. -/
theorem inner_any {M : Nat} {w : World} {tp sp sb N : Nat} {T : Tab} {vc vf : Value} {env : List (List ByteArray)} (h : PlA M w tp sp sb N T vc vf env) (cls : Option Nat) (fn : Bool) :
    Calls Tryz.prog 46 #[plV tp sp cls fn] w fun e w' => ∃ sp' b' N', e = .returned (plV tp sp' cls fn) ∧ PlA M w' tp sp' b' N' T vc vf ([] :: env) ∧ w.heap.size ≤ b' ∧ Below w.heap.size w w' := by
  unfold plV
  generalize clsV cls = cv
  obtain ⟨f, hsc, hse⟩ := h.scope.sees
  have hNs : N ≤ w.heap.size := by obtain ⟨f, o, r, _, _, _, h3, _⟩ := h.scope; exact h3
  have hb1 := ((Below.refl w.heap.size w).alloc (Nat.le_refl _) (.cells #[.pointer (some ⟨tp, 0, none⟩), .pointer (some ⟨sp, 0, none⟩), .int .i64 cv, .bool fn] 49))
  have s1 : w.cell? ⟨sp, 1, none⟩ = some f := hcell hsc 1
  have hlt := cell_ltK s1
  have H := hide h
  have HSE := hide hse
  have HNS := hide hNs
  clear h hse hNs hsc hb1
  go_enter Tryz.func46, Tryz.ntmps46
  go_wp2_with fail
  have hb2 := ((Below.refl w.heap.size w).alloc (Nat.le_refl _) (.cells #[.pointer (some ⟨tp, 0, none⟩), .pointer (some ⟨sp, 0, none⟩), .int .i64 cv, .bool fn] 49)).alloc (by simp) (.cells #[.pointer none, .pointer none, .int .i64 0, .bool false] 49)
  have x0 : ((w.alloc (.cells #[.pointer (some ⟨tp, 0, none⟩), .pointer (some ⟨sp, 0, none⟩), .int .i64 cv, .bool fn] 49)).alloc (.cells #[.pointer none, .pointer none, .int .i64 0, .bool false] 49)).heap[w.heap.size]? = some (.cells #[.pointer (some ⟨tp, 0, none⟩), .pointer (some ⟨sp, 0, none⟩), .int .i64 cv, .bool fn] 49) := (Below.heap_alloc _ _ _ (by simp)).trans (hnew w _)
  have x1 : ((w.alloc (.cells #[.pointer (some ⟨tp, 0, none⟩), .pointer (some ⟨sp, 0, none⟩), .int .i64 cv, .bool fn] 49)).alloc (.cells #[.pointer none, .pointer none, .int .i64 0, .bool false] 49)).heap[w.heap.size + 1]? = some (.cells #[.pointer none, .pointer none, .int .i64 0, .bool false] 49) := hnewK _ _ (by simp)
  generalize ((w.alloc (.cells #[.pointer (some ⟨tp, 0, none⟩), .pointer (some ⟨sp, 0, none⟩), .int .i64 cv, .bool fn] 49)).alloc (.cells #[.pointer none, .pointer none, .int .i64 0, .bool false] 49)) = W at *
  have l1 := (Array.getElem?_eq_some_iff.1 x1).1
  refine (within_any ((unhide HSE).keep fun k hk => hb2.block k (Nat.lt_of_lt_of_le hk (unhide HNS))) (Nat.le_trans (unhide HNS) hb2.size)).mono ?_
  rintro e W2 ⟨N', sp', b', rfl, g1, g2, g3, g4⟩
  have y0 := (g4.block _ (by omega)).trans x0
  have y1 := (g4.block _ l1).trans x1
  have HG := hide g3
  have HB := hide (hb2.trans (g4.mono hb2.size))
  have HL := hide (show w.heap.size + 1 < b' by omega)
  have HL2 := hide (show w.heap.size + 1 < sp' by omega)
  clear g1 g2 g3 g4 hb2 x0 x1 l1
  have z0 := hcell y0 0
  have z1 := hcell y0 1
  have z2 := hcell y0 2
  have z3 := hcell y0 3
  have u0 := hcell y1 0
  have u1 := hcell y1 1
  have u2 := hcell y1 2
  have u3 := hcell y1 3
  simp only [List.getElem?_toArray, List.getElem?_cons_zero, List.getElem?_cons_succ] at z0 z1 z2 z3 u0 u1 u2 u3
  have f0 := hfroz y0 1
  have F1 := fun i => hfroz y1 i
  have f10 := F1 0
  have f11 := F1 1
  have f12 := F1 2
  have f13 := F1 3
  clear F1
  go_wp2_with fail
  have hfin := hset (hset (hset (hset ((hother (.pointer (some ⟨sp', 0, none⟩)) (show w.heap.size + 1 ≠ w.heap.size by omega) (i := 1)).trans y1) (i := 0) (.pointer (some ⟨tp, 0, none⟩))) (i := 1) (.pointer (some ⟨sp', 0, none⟩))) (i := 2) (.int .i64 cv)) (i := 3) (.bool fn)
  refine bodyPost_ret (v := .agg #[.pointer (some ⟨tp, 0, none⟩), .pointer (some ⟨sp', 0, none⟩), .int .i64 cv, .bool fn]) (results_cell_row Tryz.results46 _ _ (w.heap.size + 1) 49 _ (0, 0) _ rfl hfin Tryz.underlying49 rfl (by kernel_rfl)) rfl ?_
  have q0 : ∃ cs fr, W2.heap[w.heap.size]? = some (.cells cs 49 fr) := ⟨_, _, y0⟩
  have q1 : ∃ cs fr, W2.heap[w.heap.size + 1]? = some (.cells cs 49 fr) := ⟨_, _, y1⟩
  have hbB := ((((((unhide HB).setCell (p := ⟨w.heap.size, 1, none⟩) (Nat.le_refl _) (.pointer (some ⟨sp', 0, none⟩))).setCell (p := ⟨w.heap.size + 1, 0, none⟩) (Nat.le_succ _) (.pointer (some ⟨tp, 0, none⟩))).setCell (p := ⟨w.heap.size + 1, 1, none⟩) (Nat.le_succ _) (.pointer (some ⟨sp', 0, none⟩))).setCell (p := ⟨w.heap.size + 1, 2, none⟩) (Nat.le_succ _) (.int .i64 cv)).setCell (p := ⟨w.heap.size + 1, 3, none⟩) (Nat.le_succ _) (.bool fn))
  have hsc := (unhide HG).but ((((((ButPl.refl W2).set q0 (i := 1) (.pointer (some ⟨sp', 0, none⟩))).set q1 (i := 0) (.pointer (some ⟨tp, 0, none⟩))).set q1 (i := 1) (.pointer (some ⟨sp', 0, none⟩))).set q1 (i := 2) (.int .i64 cv)).set q1 (i := 3) (.bool fn)) (by simp only [size_set]; exact Nat.le_refl _)
  have h0 := unhide H
  have := unhide HL
  exact ⟨sp', b', N', rfl, ⟨h0.tab.keep fun k hk => hbB.block k (Nat.lt_of_lt_of_le hk h0.hM), hsc, Nat.le_trans h0.hM hbB.size, Nat.le_trans h0.hM (by omega)⟩, by omega, hbB⟩
end Go.Proofs.YtjcoobkpmpjpbaaGreatDoor
