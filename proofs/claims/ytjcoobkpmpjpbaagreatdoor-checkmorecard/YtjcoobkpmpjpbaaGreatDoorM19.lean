/-
  What is wrong with calls.
  What is wrong with calls of functions, Super and New.
-/
import Derived.Test.YtjcoobkpmpjpbaaGreatDoorM18
namespace Go.Proofs.YtjcoobkpmpjpbaaGreatDoor
open Go.RowKit Go.Maps

/-- A call of a Go function, as one step, behind a guard that lets it. -/
theorem step_enterG {P : Program} {ops : Array Oper} {Q : Exit → Act → World → Prop} {o : Oper} {a : Act} {w : World} {K : Act → World → Prop} {E : Prop} (hw : Region.wanted o (yielded ops a.tmps) = true) {F : FuncId} {args : Array Value} (hrun : (execOp a.eval o).run P w = .ok (.enter F args) w)
    (hc : Calls P F args w fun
      | .returned v, w'' => K (a.put o.dst v) w''
      | .panicked chain, w'' => Q (.panic chain) a w''
      | .outgrown, _ => LetsOut Q) : if Region.wanted o (yielded ops a.tmps) = true then Oper.wp P o a w K Q else E := by
  rw [if_pos hw]
  unfold Oper.wp
  rw [hrun]
  exact hc
/-- Something is wrong, or nothing. -/
def ItPost (w : World) (b : Bool) (e : Ending) (w' : World) : Prop := Below w.heap.size w w' ∧ ((b = true ∧ e = .returned .nilIface) ∨ (b = false ∧ ∃ tt pp, e = .returned (.iface tt pp)))
def WrongPost (w : World) (e : Ending) (w' : World) : Prop := Below w.heap.size w w' ∧ ∃ pp, e = .returned (.iface 78 pp)
theorem cell_ltK {w : World} {a : Addr} {v : Value} (h : w.cell? a = some v) : a.block < w.heap.size := by
  by_cases hl : a.block < w.heap.size
  · exact hl
  · unfold World.cell? at h
    rw [Array.getElem?_eq_none (by omega)] at h
    cases h
theorem cellB {B : Nat} {w w' : World} (hb : Below B w w') {a : Addr} {v : Value} (h : w.cell? a = some v) (hl : a.block < B) : w'.cell? a = some v := (hb.cell hl).trans h

set_option maxRecDepth 100000 in
set_option maxHeartbeats 2000000 in
theorem wrong_any {w : World} {b : Nat} {ln : Nat} (n : Int) (h : w.cell? ⟨b, 4, none⟩ = some (.int .i64 ln)) : Calls Tryz.prog 24 #[.int .i64 n, .pointer (some ⟨b, 0, none⟩)] w fun e w' => WrongPost w e w' := by
  go_enter Tryz.func24, Tryz.ntmps24
  go_wp2_with fail
  go_ret
  exact ⟨(Below.refl _ _).alloc (Nat.le_refl _) _, _, rfl⟩
/-- Where code stands: the table and the scope. -/
structure PlA (M : Nat) (w : World) (tp sp b N : Nat) (T : Tab) (vc vf : Value) (env : List (List ByteArray)) : Prop where
  tab : TabAt M w tp T vc vf
  scope : ScopeAt w N sp b env
  hM : M ≤ w.heap.size
  hb : M ≤ b
theorem PlA.keep {M : Nat} {w w' : World} {tp sp b N : Nat} {T : Tab} {vc vf : Value} {env : List (List ByteArray)} (h : PlA M w tp sp b N T vc vf env) (hb : Below w.heap.size w w') : PlA M w' tp sp b N T vc vf env := by
  have hN : N ≤ w.heap.size := by obtain ⟨f, o, r, _, _, _, h3, _⟩ := h.scope; exact h3
  exact ⟨h.tab.keep fun k hk => hb.block k (Nat.lt_of_lt_of_le hk h.hM), h.scope.keep (fun k hk => hb.block k (Nat.lt_of_lt_of_le hk hN)) hb.size, Nat.le_trans h.hM hb.size, h.hb⟩
def plV (tp sp : Nat) (cls : Option Nat) (fn : Bool) : Value := .agg #[.pointer (some ⟨tp, 0, none⟩), .pointer (some ⟨sp, 0, none⟩), .int .i64 (clsV cls), .bool fn]
theorem kid0 {M : Nat} {w : World} {b : Nat} {t c : Tree} {r : List Tree} (h : NodeAt (fun k => k < M) w (.pointer (some ⟨b, 0, none⟩)) t) (hk : t.kids = c :: r) : ∃ g cap b1, w.cell? ⟨b, 5, none⟩ = some (.slice (some ⟨g, 0, none⟩) (r.length + 1) cap) ∧ w.cell? ⟨g, 0, none⟩ = some (.pointer (some ⟨b1, 0, none⟩)) ∧ NodeAt (fun k => k < M) w (.pointer (some ⟨b1, 0, none⟩)) c ∧ b < M ∧ g < M ∧ b1 < M ∧ r.length + 1 ≤ maxLen ∧ r.length + 1 ≤ cap := by
  rw [NodeAt_iff] at h
  obtain ⟨b', ty, ks, vs, e, h2, h3, h4, h5, h6⟩ := h
  cases e
  rw [hk] at h5
  have hn := h6 0 (by rw [hk]; simp)
  simp only [hk, List.getElem_cons_zero] at hn
  obtain ⟨b1, e1⟩ := node_ptr hn
  rcases h4 with ⟨rfl, rfl⟩ | ⟨g, cap, cur, rfl, hg, q3, q4, q5, q6, q7⟩
  · cases h5
  · have hl : vs.length = r.length + 1 := h5
    refine ⟨g, cap, b1, by rw [hcell h3 5, hl]; rfl, ?_, by rw [← e1]; exact hn, h2, hg, ?_, by omega, by omega⟩
    · rw [hcell q3 0, ← e1]
      have q : (cur.toList.take vs.length)[0]? = vs[0]? := by rw [q7]
      rw [List.getElem?_take_of_lt (by omega)] at q
      rw [← Array.getElem?_toList, q, List.getD_eq_getElem?_getD, List.getElem?_eq_getElem (by omega)]
      rfl
    · rw [e1] at hn
      obtain ⟨_, hv⟩ := node_view hn
      exact hv.lt

set_option maxRecDepth 100000 in
set_option maxHeartbeats 4000000 in
/-- Is it a call of a function of the program? -/
theorem callsFn_any {M : Nat} {w : World} {tp sp sb N : Nat} {T : Tab} {vc vf : Value} {env : List (List ByteArray)} (h : PlA M w tp sp sb N T vc vf env) (cls : Option Nat) (fn : Bool) {b : Nat} {t c : Tree} {r : List Tree} (hn : NodeAt (fun k => k < M) w (.pointer (some ⟨b, 0, none⟩)) t) (hk : t.kids = c :: r) (hc : c.text.size ≤ 300) :
    Calls Tryz.prog 47 #[plV tp sp cls fn, .pointer (some ⟨b, 0, none⟩)] w fun e w' => e = .returned (.bool (callsFnP env t)) ∧ Below w.heap.size w w' := by
  obtain ⟨g, cap, b1, c5, d0, hn1, lb, lg, lb1, hm1, hm2⟩ := kid0 hn hk
  obtain ⟨ks, hv⟩ := node_view hn1
  have e0 := hv.c0
  have e1 := hv.c1
  obtain ⟨f, hsc, hse⟩ := h.scope.sees
  have hNs : N ≤ w.heap.size := by obtain ⟨f, o, r, _, _, _, h3, _⟩ := h.scope; exact h3
  have s1 : w.cell? ⟨sp, 1, none⟩ = some f := hcell hsc 1
  obtain ⟨F, cp, rfl, hent, _⟩ := sees_any hc env N f w hse hNs
  have HSE := hide hse
  have HNS := hide hNs
  have HB := hide (fun o => (Below.refl w.heap.size w).alloc (Nat.le_refl _) o)
  have hM := h.hM
  unfold maxLen at hm1
  have n0 : (0 : Int) < ((r.length + 1 : Nat) : Int) := by omega
  have hval : callsFnP env t = (decide (c.kind = 24) && !seesP env c.text) := by
    unfold callsFnP
    rw [hk]
    show (c.kind == 24 && _) = _
    by_cases q : c.kind = 24 <;> simp [q]
  have HVAL := hide hval
  have l1 : b < w.heap.size := by omega
  have l2 : g < w.heap.size := by omega
  have l3 : b1 < w.heap.size := by omega
  have l4 : sp < w.heap.size := cell_ltK s1
  obtain ⟨L, hL⟩ : ∃ L, r.length + 1 = L := ⟨_, rfl⟩
  rw [hL] at c5 n0
  clear hval hse hsc hn hn1 hv h hm1 hm2 lb lg lb1 hNs hk hL
  unfold plV
  by_cases hkd : c.kind = 24
  · have dk : ((c.kind : Int) == 24) = true := by rw [hkd]; rfl
    have dk2 : ((c.kind : Int) = 24) := by omega
    go_enter Tryz.func47, Tryz.ntmps47
    go_wp2_with fail
    have hb1 := unhide HB (.cells #[.pointer (some ⟨tp, 0, none⟩), .pointer (some ⟨sp, 0, none⟩), .int .i64 (clsV cls), .bool fn] 49)
    have p1 := hcell (hnew w (.cells #[.pointer (some ⟨tp, 0, none⟩), .pointer (some ⟨sp, 0, none⟩), .int .i64 (clsV cls), .bool fn] 49)) 1
    have q0 := cellB hb1 e0 l3
    have q1 := cellB hb1 e1 l3
    have q2 := cellB hb1 s1 l4
    simp only [List.getElem?_toArray, List.getElem?_cons_zero, List.getElem?_cons_succ] at p1
    have HB1 := hide hb1
    have hsz : w.heap.size < (w.alloc (.cells #[.pointer (some ⟨tp, 0, none⟩), .pointer (some ⟨sp, 0, none⟩), .int .i64 (clsV cls), .bool fn] 49)).heap.size := by simp
    generalize w.alloc (.cells #[.pointer (some ⟨tp, 0, none⟩), .pointer (some ⟨sp, 0, none⟩), .int .i64 (clsV cls), .bool fn] 49) = W at *
    clear hb1
    refine wp_region_held_drew (S := fun w' => w'.cell? ⟨b1, 0, none⟩ = some (.int .i64 24) ∧ w'.cell? ⟨b1, 1, none⟩ = some (.string c.text) ∧ w'.cell? ⟨w.heap.size, 1, none⟩ = some (.pointer (some ⟨sp, 0, none⟩)) ∧ w'.cell? ⟨sp, 1, none⟩ = some (.func (.func F) #[] cp)) (by kernel_rfl) ⟨by rw [dk2] at q0; exact q0, q1, p1, q2⟩ (fun hHeld => ?_)
    refine wpAnyH_take (i := 0) (oi := { dst := some 12, op := _, type := _, pos := _, after := _, guard := _ }) (v := ?_) rfl (by kernel_rfl) (by kernel_rfl) (by kernel_rfl) (fun _ _ _ h => h) (Or.inl ⟨by rfl, ?_⟩) (by assumption) ?_
    case refine_2 =>
      intro w hSw
      try dsimp only at hSw
      go_simp
      try with_reducible rfl
    simp only [Act.put, List.setIfInBounds_toArray, List.set_cons_zero, List.set_cons_succ]
    refine wpAnyH_take (i := 1) (oi := { dst := some 13, op := _, type := _, pos := _, after := _, guard := _ }) (v := ?_) rfl (by kernel_rfl) (by kernel_rfl) (by kernel_rfl) (fun _ _ _ h => h) (Or.inl ⟨by rfl, ?_⟩) (by assumption) ?_
    case refine_2 =>
      intro w hSw
      try dsimp only at hSw
      go_simp
      try with_reducible rfl
    simp only [Act.put, List.setIfInBounds_toArray, List.set_cons_zero, List.set_cons_succ]
    refine wpAnyH_take (i := 2) (oi := { dst := some 14, op := _, type := _, pos := _, after := _, guard := _ }) (v := ?_) rfl (by kernel_rfl) (by kernel_rfl) (by kernel_rfl) (fun _ _ _ h => h) (Or.inl ⟨by rfl, ?_⟩) (by assumption) ?_
    case refine_2 =>
      intro w hSw
      try dsimp only at hSw
      go_simp
      try with_reducible rfl
    simp only [Act.put, List.setIfInBounds_toArray, List.set_cons_zero, List.set_cons_succ]
    refine wpAnyH_take (i := 3) (oi := { dst := some 15, op := _, type := _, pos := _, after := _, guard := _ }) (v := ?_) rfl (by kernel_rfl) (by kernel_rfl) (by kernel_rfl) (fun _ _ _ h => h) (Or.inl ⟨by rfl, ?_⟩) (by assumption) ?_
    case refine_2 =>
      intro w hSw
      try dsimp only at hSw
      go_simp
      try with_reducible rfl
    simp only [Act.put, List.setIfInBounds_toArray, List.set_cons_zero, List.set_cons_succ]
    refine wpAnyH_take (i := 4) (oi := { dst := some 16, op := _, type := _, pos := _, after := _, guard := _ }) (v := ?_) rfl (by kernel_rfl) (by kernel_rfl) (by kernel_rfl) (fun _ _ _ h => h) (Or.inl ⟨by rfl, ?_⟩) (by assumption) ?_
    case refine_2 =>
      intro w hSw
      try dsimp only at hSw
      go_simp
      try with_reducible rfl
    simp only [Act.put, List.setIfInBounds_toArray, List.set_cons_zero, List.set_cons_succ]
    refine wpAnyH_take (i := 5) (oi := { dst := some 17, op := _, type := _, pos := _, after := _, guard := _ }) (v := ?_) rfl (by kernel_rfl) (by kernel_rfl) (by kernel_rfl) (fun _ _ _ h => h) (Or.inl ⟨by rfl, ?_⟩) (by assumption) ?_
    case refine_2 =>
      intro w hSw
      try dsimp only at hSw
      go_simp
      try with_reducible rfl
    simp only [Act.put, List.setIfInBounds_toArray, List.set_cons_zero, List.set_cons_succ]
    refine wpAnyH_take (i := 6) (oi := { dst := some 18, op := _, type := _, pos := _, after := _, guard := _ }) (v := ?_) rfl (by kernel_rfl) (by kernel_rfl) (by kernel_rfl) (fun _ _ _ h => h) (Or.inl ⟨by rfl, ?_⟩) (by assumption) ?_
    case refine_2 =>
      intro w hSw
      try dsimp only at hSw
      go_simp
      try with_reducible rfl
    simp only [Act.put, List.setIfInBounds_toArray, List.set_cons_zero, List.set_cons_succ]
    refine wpAnyH_take (i := 7) (oi := { dst := some 19, op := _, type := _, pos := _, after := _, guard := _ }) (v := ?_) rfl (by kernel_rfl) (by kernel_rfl) (by kernel_rfl) (fun _ _ _ h => h) (Or.inl ⟨by rfl, ?_⟩) (by assumption) ?_
    case refine_2 =>
      intro w hSw
      try dsimp only at hSw
      go_simp
      try with_reducible rfl
    simp only [Act.put, List.setIfInBounds_toArray, List.set_cons_zero, List.set_cons_succ]
    refine wpAnyH_take (i := 8) (oi := { dst := some 20, op := _, type := _, pos := _, after := _, guard := _ }) (v := ?_) rfl (by kernel_rfl) (by kernel_rfl) (by kernel_rfl) (fun _ _ _ h => h) (Or.inl ⟨by rfl, ?_⟩) (by assumption) ?_
    case refine_2 =>
      intro w hSw
      try dsimp only at hSw
      go_simp
      try with_reducible rfl
    simp only [Act.put, List.setIfInBounds_toArray, List.set_cons_zero, List.set_cons_succ]
    refine wpAnyH_take (i := 9) (oi := { dst := some 21, op := _, type := _, pos := _, after := _, guard := _ }) (v := ?_) rfl (by kernel_rfl) (by kernel_rfl) (by kernel_rfl) (fun _ _ _ h => h) (Or.inl ⟨by rfl, ?_⟩) (by assumption) ?_
    case refine_2 =>
      intro w hSw
      try dsimp only at hSw
      go_simp
      try with_reducible rfl
    simp only [Act.put, List.setIfInBounds_toArray, List.set_cons_zero, List.set_cons_succ]
    refine wpAnyH_take (i := 10) (oi := { dst := some 22, op := _, type := _, pos := _, after := _, guard := _ }) (v := ?_) rfl (by kernel_rfl) (by kernel_rfl) (by kernel_rfl) (fun _ _ _ h => h) (Or.inl ⟨by rfl, ?_⟩) (by assumption) ?_
    case refine_2 =>
      intro w hSw
      try dsimp only at hSw
      go_simp
      try with_reducible rfl
    simp only [Act.put, List.setIfInBounds_toArray, List.set_cons_zero, List.set_cons_succ]
    refine wpAnyH_take (i := 11) (oi := { dst := some 23, op := _, type := _, pos := _, after := _, guard := _ }) (v := ?_) rfl (by kernel_rfl) (by kernel_rfl) (by kernel_rfl) (fun _ _ _ h => h) (Or.inl ⟨by rfl, ?_⟩) (by assumption) ?_
    case refine_2 =>
      intro w hSw
      try dsimp only at hSw
      go_simp
      try with_reducible rfl
    simp only [Act.put, List.setIfInBounds_toArray, List.set_cons_zero, List.set_cons_succ]
    refine wpAnyH_take (i := 12) (oi := { dst := some 24, op := _, type := _, pos := _, after := _, guard := _ }) (v := ?_) rfl (by kernel_rfl) (by kernel_rfl) (by kernel_rfl) (fun _ _ _ h => h) (Or.inl ⟨by rfl, ?_⟩) (by assumption) ?_
    case refine_2 =>
      intro w hSw
      try dsimp only at hSw
      go_simp
      try with_reducible rfl
    simp only [Act.put, List.setIfInBounds_toArray, List.set_cons_zero, List.set_cons_succ]
    refine wpAnyH_take (i := 13) (oi := { dst := some 25, op := _, type := _, pos := _, after := _, guard := _ }) (v := ?_) rfl (by kernel_rfl) (by kernel_rfl) (by kernel_rfl) (fun _ _ _ h => h) (Or.inl ⟨by rfl, ?_⟩) (by assumption) ?_
    case refine_2 =>
      intro w hSw
      try dsimp only at hSw
      go_simp
      try with_reducible rfl
    simp only [Act.put, List.setIfInBounds_toArray, List.set_cons_zero, List.set_cons_succ]
    refine wpAnyH_take (i := 14) (oi := { dst := some 26, op := _, type := _, pos := _, after := _, guard := _ }) (v := ?_) rfl (by kernel_rfl) (by kernel_rfl) (by kernel_rfl) (fun _ _ _ h => h) (Or.inl ⟨by rfl, ?_⟩) (by assumption) ?_
    case refine_2 =>
      intro w hSw
      try dsimp only at hSw
      go_simp
      try with_reducible rfl
    simp only [Act.put, List.setIfInBounds_toArray, List.set_cons_zero, List.set_cons_succ]
    obtain ⟨F', cp', eF, _, hcall⟩ := sees_any hc env N (.func (.func F) #[] cp) W.drew ((unhide HSE).keep fun k hk => (unhide HB1).block k (Nat.lt_of_lt_of_le hk (unhide HNS))) (Nat.le_trans (unhide HNS) (unhide HB1).size)
    cases eF
    refine wpAnyH_ready (rs := [15]) (by kernel_rfl) (by simp) ?_
    refine AllReadyH.cons (o := { dst := some 27, op := _, type := _, pos := _, after := _, guard := _ }) rfl (fun K hK => ?_) AllReadyH.nil
    refine step_enterG (by kernel_rfl) (by simp [Act.eval, hent, go_sem]) (hcall.mono ?_)
    rintro e W3 ⟨rfl, hb3⟩
    have HB3 := hide hb3
    have z0 := cellB hb3 q0 (Nat.lt_of_lt_of_le l3 (unhide HB1).size)
    have z1 := cellB hb3 q1 (Nat.lt_of_lt_of_le l3 (unhide HB1).size)
    have z2 := cellB hb3 p1 hsz
    have z3 := cellB hb3 q2 (Nat.lt_of_lt_of_le l4 (unhide HB1).size)
    clear hb3
    refine hK.out _ _ ⟨by rw [dk2] at z0; exact z0, z1, z2, z3⟩ (fun hHeld15 => ?_)
    clear hK K
    simp only [Act.put, List.setIfInBounds_toArray, List.set_cons_zero, List.set_cons_succ]
    refine wpAnyH_take (i := 16) (oi := { dst := some 28, op := _, type := _, pos := _, after := _, guard := _ }) (v := ?_) rfl (by kernel_rfl) (by kernel_rfl) (by kernel_rfl) (fun _ _ _ h => h) (Or.inl ⟨by rfl, ?_⟩) (by assumption) ?_
    case refine_2 =>
      intro w hSw
      try dsimp only at hSw
      go_simp
      try with_reducible rfl
    simp only [Act.put, List.setIfInBounds_toArray, List.set_cons_zero, List.set_cons_succ]
    refine wpAnyH_take (i := 17) (oi := { dst := some 29, op := _, type := _, pos := _, after := _, guard := _ }) (v := ?_) rfl (by kernel_rfl) (by kernel_rfl) (by kernel_rfl) (fun _ _ _ h => h) (Or.inl ⟨by rfl, ?_⟩) (by assumption) ?_
    case refine_2 =>
      intro w hSw
      try dsimp only at hSw
      go_simp
      try with_reducible rfl
    simp only [Act.put, List.setIfInBounds_toArray, List.set_cons_zero, List.set_cons_succ]
    refine wpAnyH_take (i := 18) (oi := { dst := some 4, op := _, type := _, pos := _, after := _, guard := _ }) (v := ?_) rfl (by kernel_rfl) (by kernel_rfl) (by kernel_rfl) (fun _ _ _ h => h) (Or.inl ⟨by rfl, ?_⟩) (by assumption) ?_
    case refine_2 =>
      intro w hSw
      try dsimp only at hSw
      go_simp
      try with_reducible rfl
    simp only [Act.put, List.setIfInBounds_toArray, List.set_cons_zero, List.set_cons_succ]
    refine wpAnyH_done (by kernel_rfl) ?_ _
    go_wp2_with fail
    go_ret
    refine ⟨?_, (Below.drew (unhide HB1)).trans ((unhide HB3).mono (unhide HB1).size)⟩
    rw [unhide HVAL, decide_eq_true hkd]
    rfl
  · have dk : ((c.kind : Int) == 24) = false := by simpa using fun q : (c.kind : Int) = 24 => hkd (by omega)
    have dk2 : ¬ ((c.kind : Int) = 24) := by omega
    go_enter Tryz.func47, Tryz.ntmps47
    go_wp2_with fail
    have hb1 := unhide HB (.cells #[.pointer (some ⟨tp, 0, none⟩), .pointer (some ⟨sp, 0, none⟩), .int .i64 (clsV cls), .bool fn] 49)
    have p1 := hcell (hnew w (.cells #[.pointer (some ⟨tp, 0, none⟩), .pointer (some ⟨sp, 0, none⟩), .int .i64 (clsV cls), .bool fn] 49)) 1
    have q0 := cellB hb1 e0 l3
    have q1 := cellB hb1 e1 l3
    have q2 := cellB hb1 s1 l4
    simp only [List.getElem?_toArray, List.getElem?_cons_zero, List.getElem?_cons_succ] at p1
    have HB1 := hide hb1
    have hsz : w.heap.size < (w.alloc (.cells #[.pointer (some ⟨tp, 0, none⟩), .pointer (some ⟨sp, 0, none⟩), .int .i64 (clsV cls), .bool fn] 49)).heap.size := by simp
    generalize w.alloc (.cells #[.pointer (some ⟨tp, 0, none⟩), .pointer (some ⟨sp, 0, none⟩), .int .i64 (clsV cls), .bool fn] 49) = W at *
    clear hb1
    refine wp_region_held_drew (S := fun w' => w'.cell? ⟨b1, 0, none⟩ = some (.int .i64 (c.kind : Int)) ∧ w'.cell? ⟨b1, 1, none⟩ = some (.string c.text) ∧ w'.cell? ⟨w.heap.size, 1, none⟩ = some (.pointer (some ⟨sp, 0, none⟩)) ∧ w'.cell? ⟨sp, 1, none⟩ = some (.func (.func F) #[] cp)) (by kernel_rfl) ⟨q0, q1, p1, q2⟩ (fun hHeld => ?_)
    refine wpAnyH_take (i := 0) (oi := { dst := some 12, op := _, type := _, pos := _, after := _, guard := _ }) (v := ?_) rfl (by kernel_rfl) (by kernel_rfl) (by kernel_rfl) (fun _ _ _ h => h) (Or.inl ⟨by rfl, ?_⟩) (by assumption) ?_
    case refine_2 =>
      intro w hSw
      try dsimp only at hSw
      go_simp
      try with_reducible rfl
    simp only [Act.put, List.setIfInBounds_toArray, List.set_cons_zero, List.set_cons_succ]
    refine wpAnyH_take (i := 1) (oi := { dst := some 13, op := _, type := _, pos := _, after := _, guard := _ }) (v := ?_) rfl (by kernel_rfl) (by kernel_rfl) (by kernel_rfl) (fun _ _ _ h => h) (Or.inl ⟨by rfl, ?_⟩) (by assumption) ?_
    case refine_2 =>
      intro w hSw
      try dsimp only at hSw
      go_simp
      try with_reducible rfl
    simp only [Act.put, List.setIfInBounds_toArray, List.set_cons_zero, List.set_cons_succ]
    refine wpAnyH_take (i := 2) (oi := { dst := some 14, op := _, type := _, pos := _, after := _, guard := _ }) (v := ?_) rfl (by kernel_rfl) (by kernel_rfl) (by kernel_rfl) (fun _ _ _ h => h) (Or.inl ⟨by rfl, ?_⟩) (by assumption) ?_
    case refine_2 =>
      intro w hSw
      try dsimp only at hSw
      go_simp
      try with_reducible rfl
    simp only [Act.put, List.setIfInBounds_toArray, List.set_cons_zero, List.set_cons_succ]
    refine wpAnyH_take (i := 3) (oi := { dst := some 15, op := _, type := _, pos := _, after := _, guard := _ }) (v := ?_) rfl (by kernel_rfl) (by kernel_rfl) (by kernel_rfl) (fun _ _ _ h => h) (Or.inl ⟨by rfl, ?_⟩) (by assumption) ?_
    case refine_2 =>
      intro w hSw
      try dsimp only at hSw
      go_simp
      try with_reducible rfl
    simp only [Act.put, List.setIfInBounds_toArray, List.set_cons_zero, List.set_cons_succ]
    refine wpAnyH_take (i := 4) (oi := { dst := some 16, op := _, type := _, pos := _, after := _, guard := _ }) (v := ?_) rfl (by kernel_rfl) (by kernel_rfl) (by kernel_rfl) (fun _ _ _ h => h) (Or.inl ⟨by rfl, ?_⟩) (by assumption) ?_
    case refine_2 =>
      intro w hSw
      try dsimp only at hSw
      go_simp
      try with_reducible rfl
    simp only [Act.put, List.setIfInBounds_toArray, List.set_cons_zero, List.set_cons_succ]
    refine wpAnyH_take (i := 5) (oi := { dst := some 17, op := _, type := _, pos := _, after := _, guard := _ }) (v := ?_) rfl (by kernel_rfl) (by kernel_rfl) (by kernel_rfl) (fun _ _ _ h => h) (Or.inl ⟨by rfl, ?_⟩) (by assumption) ?_
    case refine_2 =>
      intro w hSw
      try dsimp only at hSw
      go_simp
      try with_reducible rfl
    simp only [Act.put, List.setIfInBounds_toArray, List.set_cons_zero, List.set_cons_succ]
    refine wpAnyH_take (i := 6) (oi := { dst := some 18, op := _, type := _, pos := _, after := _, guard := _ }) (v := undef) rfl (by kernel_rfl) (by kernel_rfl) (by kernel_rfl) (fun _ _ _ h => h) (Or.inr ⟨by rfl, rfl⟩) (by assumption) ?_
    simp only [Act.put, List.setIfInBounds_toArray, List.set_cons_zero, List.set_cons_succ]
    refine wpAnyH_take (i := 7) (oi := { dst := some 19, op := _, type := _, pos := _, after := _, guard := _ }) (v := undef) rfl (by kernel_rfl) (by kernel_rfl) (by kernel_rfl) (fun _ _ _ h => h) (Or.inr ⟨by rfl, rfl⟩) (by assumption) ?_
    simp only [Act.put, List.setIfInBounds_toArray, List.set_cons_zero, List.set_cons_succ]
    refine wpAnyH_take (i := 8) (oi := { dst := some 20, op := _, type := _, pos := _, after := _, guard := _ }) (v := undef) rfl (by kernel_rfl) (by kernel_rfl) (by kernel_rfl) (fun _ _ _ h => h) (Or.inr ⟨by rfl, rfl⟩) (by assumption) ?_
    simp only [Act.put, List.setIfInBounds_toArray, List.set_cons_zero, List.set_cons_succ]
    refine wpAnyH_take (i := 9) (oi := { dst := some 21, op := _, type := _, pos := _, after := _, guard := _ }) (v := undef) rfl (by kernel_rfl) (by kernel_rfl) (by kernel_rfl) (fun _ _ _ h => h) (Or.inr ⟨by rfl, rfl⟩) (by assumption) ?_
    simp only [Act.put, List.setIfInBounds_toArray, List.set_cons_zero, List.set_cons_succ]
    refine wpAnyH_take (i := 10) (oi := { dst := some 22, op := _, type := _, pos := _, after := _, guard := _ }) (v := undef) rfl (by kernel_rfl) (by kernel_rfl) (by kernel_rfl) (fun _ _ _ h => h) (Or.inr ⟨by rfl, rfl⟩) (by assumption) ?_
    simp only [Act.put, List.setIfInBounds_toArray, List.set_cons_zero, List.set_cons_succ]
    refine wpAnyH_take (i := 11) (oi := { dst := some 23, op := _, type := _, pos := _, after := _, guard := _ }) (v := undef) rfl (by kernel_rfl) (by kernel_rfl) (by kernel_rfl) (fun _ _ _ h => h) (Or.inr ⟨by rfl, rfl⟩) (by assumption) ?_
    simp only [Act.put, List.setIfInBounds_toArray, List.set_cons_zero, List.set_cons_succ]
    refine wpAnyH_take (i := 12) (oi := { dst := some 24, op := _, type := _, pos := _, after := _, guard := _ }) (v := undef) rfl (by kernel_rfl) (by kernel_rfl) (by kernel_rfl) (fun _ _ _ h => h) (Or.inr ⟨by rfl, rfl⟩) (by assumption) ?_
    simp only [Act.put, List.setIfInBounds_toArray, List.set_cons_zero, List.set_cons_succ]
    refine wpAnyH_take (i := 13) (oi := { dst := some 25, op := _, type := _, pos := _, after := _, guard := _ }) (v := undef) rfl (by kernel_rfl) (by kernel_rfl) (by kernel_rfl) (fun _ _ _ h => h) (Or.inr ⟨by rfl, rfl⟩) (by assumption) ?_
    simp only [Act.put, List.setIfInBounds_toArray, List.set_cons_zero, List.set_cons_succ]
    refine wpAnyH_take (i := 14) (oi := { dst := some 26, op := _, type := _, pos := _, after := _, guard := _ }) (v := undef) rfl (by kernel_rfl) (by kernel_rfl) (by kernel_rfl) (fun _ _ _ h => h) (Or.inr ⟨by rfl, rfl⟩) (by assumption) ?_
    simp only [Act.put, List.setIfInBounds_toArray, List.set_cons_zero, List.set_cons_succ]
    refine wpAnyH_take (i := 15) (oi := { dst := some 27, op := _, type := _, pos := _, after := _, guard := _ }) (v := undef) rfl (by kernel_rfl) (by kernel_rfl) (by kernel_rfl) (fun _ _ _ h => h) (Or.inr ⟨by rfl, rfl⟩) (by assumption) ?_
    simp only [Act.put, List.setIfInBounds_toArray, List.set_cons_zero, List.set_cons_succ]
    refine wpAnyH_take (i := 16) (oi := { dst := some 28, op := _, type := _, pos := _, after := _, guard := _ }) (v := undef) rfl (by kernel_rfl) (by kernel_rfl) (by kernel_rfl) (fun _ _ _ h => h) (Or.inr ⟨by rfl, rfl⟩) (by assumption) ?_
    simp only [Act.put, List.setIfInBounds_toArray, List.set_cons_zero, List.set_cons_succ]
    refine wpAnyH_take (i := 17) (oi := { dst := some 29, op := _, type := _, pos := _, after := _, guard := _ }) (v := ?_) rfl (by kernel_rfl) (by kernel_rfl) (by kernel_rfl) (fun _ _ _ h => h) (Or.inl ⟨by rfl, ?_⟩) (by assumption) ?_
    case refine_2 =>
      intro w hSw
      try dsimp only at hSw
      go_simp
      try with_reducible rfl
    simp only [Act.put, List.setIfInBounds_toArray, List.set_cons_zero, List.set_cons_succ]
    refine wpAnyH_take (i := 18) (oi := { dst := some 4, op := _, type := _, pos := _, after := _, guard := _ }) (v := ?_) rfl (by kernel_rfl) (by kernel_rfl) (by kernel_rfl) (fun _ _ _ h => h) (Or.inl ⟨by rfl, ?_⟩) (by assumption) ?_
    case refine_2 =>
      intro w hSw
      try dsimp only at hSw
      go_simp
      try with_reducible rfl
    simp only [Act.put, List.setIfInBounds_toArray, List.set_cons_zero, List.set_cons_succ]
    refine wpAnyH_done (by kernel_rfl) ?_ _
    go_wp2_with fail
    go_ret
    refine ⟨?_, Below.drew (unhide HB1)⟩
    rw [unhide HVAL, decide_eq_false hkd]
    rfl
end Go.Proofs.YtjcoobkpmpjpbaaGreatDoor

namespace Go.Proofs.YtjcoobkpmpjpbaaGreatDoor
open Go.RowKit Go.Maps
set_option linter.unusedSimpArgs false

def madeOk (T : Tab) (t : Tree) : Bool := match firstOf T.cs t.text with
  | none => false
  | some c => ((methodUp T.cs initName T.cs.length (some c)).elim 0 takesN) == t.kids.length
theorem method_kids {cs : List Tree} (hwf : ∀ c ∈ cs, Wf c) {s : ByteArray} : ∀ {f : Nat} {o : Option Nat} {m : Tree}, methodUp cs s f o = some m → ∃ p b, m.kids = [p, b]
  | 0, _, _, h => by cases h
  | f + 1, none, _, h => by cases h
  | f + 1, some i, m, h => by
    rw [methodUp] at h
    cases hc : cs[i]? with
    | none => rw [hc] at h; cases h
    | some c =>
      rw [hc] at h
      simp only at h
      cases hf : (methodsIn c).find? fun m => decide (m.text = s) with
      | some m' =>
        rw [hf] at h
        cases h
        have hm := List.mem_of_find?_eq_some hf
        unfold methodsIn at hm
        obtain ⟨h1, h2⟩ := List.mem_filter.1 hm
        exact ((hwf c (List.mem_of_getElem? hc)).kid h1).here.1.1 (Or.inl (by simpa using h2))
      | none =>
        rw [hf] at h
        exact method_kids hwf h
theorem hcellB {w w' : World} (hb : Below w.heap.size w w') {a : Addr} {v : Value} (h : w.cell? a = some v) : w'.cell? a = some v := cellB hb h (cell_ltK h)

set_option maxRecDepth 100000 in
set_option maxHeartbeats 8000000 in
/-- What is wrong with a New. -/
theorem made_any {M : Nat} {w : World} {tp sp sb N : Nat} {T : Tab} {vc vf : Value} {env : List (List ByteArray)} (h : PlA M w tp sp sb N T vc vf env) (cls : Option Nat) (fn : Bool) {b : Nat} {t : Tree} (hn : NodeAt (fun k => k < M) w (.pointer (some ⟨b, 0, none⟩)) t) (hwf : ∀ c ∈ T.cs, Wf c) {R : Bool} (hR : madeOk T t = R) :
    Calls Tryz.prog 73 #[plV tp sp cls fn, .pointer (some ⟨b, 0, none⟩)] w fun e w' => ItPost w R e w' := by
  have HR := hide hR
  clear hR
  obtain ⟨ks, hv⟩ := node_view hn
  obtain ⟨g, cap, rfl, hmax, _⟩ := hv.kids
  unfold plV
  generalize clsV cls = cv
  have hb1 := (Below.refl w.heap.size w).alloc (Nat.le_refl _) (.cells #[.pointer (some ⟨tp, 0, none⟩), .pointer (some ⟨sp, 0, none⟩), .int .i64 cv, .bool fn] 49)
  have p0 := hcell (hnew w (.cells #[.pointer (some ⟨tp, 0, none⟩), .pointer (some ⟨sp, 0, none⟩), .int .i64 cv, .bool fn] 49)) 0
  simp only [List.getElem?_toArray, List.getElem?_cons_zero, List.getElem?_cons_succ] at p0
  have HP1 := hide (h.keep hb1)
  have HN1 := hide (node_keep hn fun k hk => hb1.block k (Nat.lt_of_lt_of_le hk h.hM))
  have HB1 := hide hb1
  have hsz : w.heap.size < (w.alloc (.cells #[.pointer (some ⟨tp, 0, none⟩), .pointer (some ⟨sp, 0, none⟩), .int .i64 cv, .bool fn] 49)).heap.size := by simp
  have e1 := hcellB hb1 hv.c1
  have e4 := hcellB hb1 hv.c4
  have e5 := hcellB hb1 hv.c5
  have HM := hide h.hM
  have HWF := hide hwf
  have lb : b < w.heap.size := Nat.lt_of_lt_of_le hv.lt h.hM
  unfold maxLen at hmax
  clear h hn hv hwf hb1
  have entC : ∀ w : World, Sem.run Tryz.prog (callFunc 8 #[.pointer (some ⟨tp, 0, none⟩), .string t.text]) w = .ok (.enter 8 #[.pointer (some ⟨tp, 0, none⟩), .string t.text]) w := fun _ => by kernel_rfl
  go_enter Tryz.func73, Tryz.ntmps73
  go_wp2_with fail
  generalize w.alloc (.cells #[.pointer (some ⟨tp, 0, none⟩), .pointer (some ⟨sp, 0, none⟩), .int .i64 cv, .bool fn] 49) = W at *
  refine wp_region_held_drew (S := fun w' => w'.cell? ⟨w.heap.size, 0, none⟩ = some (.pointer (some ⟨tp, 0, none⟩)) ∧ w'.cell? ⟨b, 1, none⟩ = some (.string t.text)) (by kernel_rfl) ⟨p0, e1⟩ (fun hHeld => ?_)
  refine wpAnyH_take (i := 0) (oi := { dst := some 9, op := _, type := _, pos := _, after := _, guard := _ }) (v := ?_) rfl (by kernel_rfl) (by kernel_rfl) (by kernel_rfl) (fun _ _ _ h => h) (Or.inl ⟨by rfl, ?_⟩) (by assumption) ?_
  case refine_2 =>
    intro w hSw
    try dsimp only at hSw
    go_simp
    try with_reducible rfl
  simp only [Act.put, List.setIfInBounds_toArray, List.set_cons_zero, List.set_cons_succ]
  refine wpAnyH_take (i := 1) (oi := { dst := some 10, op := _, type := _, pos := _, after := _, guard := _ }) (v := ?_) rfl (by kernel_rfl) (by kernel_rfl) (by kernel_rfl) (fun _ _ _ h => h) (Or.inl ⟨by rfl, ?_⟩) (by assumption) ?_
  case refine_2 =>
    intro w hSw
    try dsimp only at hSw
    go_simp
    try with_reducible rfl
  simp only [Act.put, List.setIfInBounds_toArray, List.set_cons_zero, List.set_cons_succ]
  refine wpAnyH_take (i := 2) (oi := { dst := some 11, op := _, type := _, pos := _, after := _, guard := _ }) (v := ?_) rfl (by kernel_rfl) (by kernel_rfl) (by kernel_rfl) (fun _ _ _ h => h) (Or.inl ⟨by rfl, ?_⟩) (by assumption) ?_
  case refine_2 =>
    intro w hSw
    try dsimp only at hSw
    go_simp
    try with_reducible rfl
  simp only [Act.put, List.setIfInBounds_toArray, List.set_cons_zero, List.set_cons_succ]
  refine wpAnyH_take (i := 3) (oi := { dst := some 12, op := _, type := _, pos := _, after := _, guard := _ }) (v := ?_) rfl (by kernel_rfl) (by kernel_rfl) (by kernel_rfl) (fun _ _ _ h => h) (Or.inl ⟨by rfl, ?_⟩) (by assumption) ?_
  case refine_2 =>
    intro w hSw
    try dsimp only at hSw
    go_simp
    try with_reducible rfl
  simp only [Act.put, List.setIfInBounds_toArray, List.set_cons_zero, List.set_cons_succ]
  refine wpAnyH_take (i := 4) (oi := { dst := some 13, op := _, type := _, pos := _, after := _, guard := _ }) (v := ?_) rfl (by kernel_rfl) (by kernel_rfl) (by kernel_rfl) (fun _ _ _ h => h) (Or.inl ⟨by rfl, ?_⟩) (by assumption) ?_
  case refine_2 =>
    intro w hSw
    try dsimp only at hSw
    go_simp
    try with_reducible rfl
  simp only [Act.put, List.setIfInBounds_toArray, List.set_cons_zero, List.set_cons_succ]
  refine wpAnyH_take (i := 5) (oi := { dst := some 14, op := _, type := _, pos := _, after := _, guard := _ }) (v := ?_) rfl (by kernel_rfl) (by kernel_rfl) (by kernel_rfl) (fun _ _ _ h => h) (Or.inl ⟨by rfl, ?_⟩) (by assumption) ?_
  case refine_2 =>
    intro w hSw
    try dsimp only at hSw
    go_simp
    try with_reducible rfl
  simp only [Act.put, List.setIfInBounds_toArray, List.set_cons_zero, List.set_cons_succ]
  refine wpAnyH_ready (rs := [6]) (by kernel_rfl) (by simp) ?_
  refine AllReadyH.cons (o := { dst := some 15, op := _, type := _, pos := _, after := _, guard := _ }) rfl (fun K hK => ?_) AllReadyH.nil
  refine step_enterG (by kernel_rfl) (by simp [Act.eval, entC, go_sem]) ((tabClass_any ((unhide HP1).tab.keep fun k hk => rfl) (w := W.drew) (unhide HP1).hM t.text).mono ?_)
  rintro e W2 ⟨rfl, hb2⟩
  have HP2 := hide ((unhide HP1).keep (w' := W2) ⟨hb2.os, hb2.tape, hb2.output, hb2.size, hb2.block⟩)
  have HB2 := hide ((Below.drew (unhide HB1)).trans (hb2.mono (unhide HB1).size))
  have z0 := cellB hb2 p0 hsz
  have z1 := hcellB hb2 e1
  have z4 := hcellB hb2 e4
  have z5 := hcellB hb2 e5
  clear hb2
  refine hK.out _ _ ⟨z0, z1⟩ (fun hHeld6 => ?_)
  clear hK K
  simp only [Act.put, List.setIfInBounds_toArray, List.set_cons_zero, List.set_cons_succ]
  refine wpAnyH_take (i := 7) (oi := { dst := some 5, op := _, type := _, pos := _, after := _, guard := _ }) (v := ?_) rfl (by kernel_rfl) (by kernel_rfl) (by kernel_rfl) (fun _ _ _ h => h) (Or.inl ⟨by rfl, ?_⟩) (by assumption) ?_
  case refine_2 =>
    intro w hSw
    try dsimp only at hSw
    go_simp
    try with_reducible rfl
  simp only [Act.put, List.setIfInBounds_toArray, List.set_cons_zero, List.set_cons_succ]
  refine wpAnyH_done (by kernel_rfl) ?_ _
  clear hHeld hHeld6 p0 e1 e4 e5
  cases hf : firstOf T.cs t.text with
  | none =>
    rw [show clsV none = -1 from rfl]
    have HF := hide hf
    clear hf
    go_wp2_with fail
    refine (wrong_any 7 z4).mono ?_
    rintro e W3 ⟨hb3, pp, rfl⟩
    have HB3 := hide ((unhide HB2).trans (hb3.mono (unhide HB2).size))
    clear hb3
    go_wp2_with fail
    go_ret
    exact ⟨unhide HB3, Or.inr ⟨by rw [← unhide HR, madeOk, unhide HF], _, _, rfl⟩⟩
  | some c =>
    have hc0 : clsV (some c) = (c : Int) := rfl
    have HF := hide hf
    rw [hc0]
    have d0 : ((c : Int) == -1) = false := by simp
    have d1 : ¬ ((c : Int) = -1) := by omega
    have HCL := hide (show ClsOk T.cs (some c) from hf ▸ first_cls T.cs t.text)
    clear hf
    go_wp2_with fail
    refine (show Calls Tryz.prog 95 #[.pointer (some ⟨tp, 0, none⟩), .int .i64 (c : Int), .string ⟨#[105, 110, 105, 116]⟩] W2 fun e w' => MethPost M W2 (methodUp T.cs initName T.cs.length (some c)) e w' from tabMethod_any (unhide HP2).tab (unhide HCL) initName).mono ?_
    rintro e W3 ⟨rfl, ⟨hr, rfl⟩ | ⟨m, mb, mk, hr, rfl, hmn⟩⟩
    · have HMR := hide hr
      clear hr
      by_cases hk : (0 : Nat) = t.kids.length
      · have dk : ((0 : Int) == (t.kids.length : Int)) = true := by rw [← hk]; rfl
        have dk2 : (t.kids.length : Int) = 0 := by omega
        have HK := hide hk
        clear hk
        go_wp2_with fail
        go_ret
        exact ⟨unhide HB2, Or.inl ⟨by rw [← unhide HR, madeOk, unhide HF]; simp only; rw [unhide HMR]; simp [← unhide HK], rfl⟩⟩
      · have dk : ((0 : Int) == (t.kids.length : Int)) = false := by simp; omega
        have dk2 : ¬ (0 : Int) = (t.kids.length : Int) := by omega
        have HK := hide hk
        clear hk
        go_wp2_with fail
        refine (wrong_any 1 z4).mono ?_
        rintro e W3 ⟨hb3, pp, rfl⟩
        have HB3 := hide ((unhide HB2).trans (hb3.mono (unhide HB2).size))
        clear hb3
        go_wp2_with fail
        go_ret
        exact ⟨unhide HB3, Or.inr ⟨by rw [← unhide HR, madeOk, unhide HF]; simp only; rw [unhide HMR]; simpa using unhide HK, _, _, rfl⟩⟩
    · have HMR := hide hr
      obtain ⟨p, bk, hkm⟩ := method_kids (unhide HWF) hr
      have HMN := hide hmn
      have HKM := hide hkm
      clear hmn hkm hr
      go_wp2_with fail
      refine (takes_any (unhide HMN) (unhide HKM)).mono ?_
      rintro e W4 ⟨rfl, hb4⟩
      have y4 := hcellB hb4 z4
      have y5 := hcellB hb4 z5
      have HB4 := hide ((unhide HB2).trans (hb4.mono (unhide HB2).size))
      obtain ⟨tk, htk⟩ : ∃ tk, takesN m = tk := ⟨_, rfl⟩
      rw [htk]
      have HTK := hide htk
      clear htk
      clear hb4 z4 z5
      by_cases hk : tk = t.kids.length
      · have dk : ((tk : Int) == (t.kids.length : Int)) = true := by rw [hk]; simp
        have dk2 : (tk : Int) = (t.kids.length : Int) := by omega
        have HK := hide hk
        clear hk
        go_wp2_with fail
        go_ret
        exact ⟨unhide HB4, Or.inl ⟨by rw [← unhide HR, madeOk, unhide HF]; simp only; rw [unhide HMR]; simp [unhide HTK, unhide HK], rfl⟩⟩
      · have dk : ((tk : Int) == (t.kids.length : Int)) = false := by simp; omega
        have dk2 : ¬ (tk : Int) = (t.kids.length : Int) := by omega
        have HK := hide hk
        clear hk
        go_wp2_with fail
        refine (wrong_any 1 y4).mono ?_
        rintro e W3 ⟨hb3, pp, rfl⟩
        have HB3 := hide ((unhide HB4).trans (hb3.mono (unhide HB4).size))
        clear hb3
        go_wp2_with fail
        go_ret
        exact ⟨unhide HB3, Or.inr ⟨by rw [← unhide HR, madeOk, unhide HF]; simp only; rw [unhide HMR]; simpa [unhide HTK] using unhide HK, _, _, rfl⟩⟩
end Go.Proofs.YtjcoobkpmpjpbaaGreatDoor
