/-
  What is wrong with calls of functions, and with Super.
  What is wrong with a node, whatever is within it.
-/
import Derived.Test.YtjcoobkpmpjpbaaGreatDoorM19
namespace Go.Proofs.YtjcoobkpmpjpbaaGreatDoor
open Go.RowKit Go.Maps
set_option linter.unusedSimpArgs false

def callOk (T : Tab) (t : Tree) : Bool := match t.kids with
  | c :: vs => (match firstOf T.fns c.text with
    | none => false
    | some i => (T.fns[i]?).elim false fun g => takesN g == vs.length)
  | [] => false
def superOk (T : Tab) (cls : Option Nat) (t : Tree) : Bool := match cls with
  | none => false
  | some c => (match aboveOf T.cs c with
    | none => false
    | some a => (methodUp T.cs t.text T.cs.length (some a)).isSome)
set_option maxRecDepth 100000 in
set_option maxHeartbeats 8000000 in
theorem callOfFn_any {M : Nat} {w : World} {tp sp sb N : Nat} {T : Tab} {vc vf : Value} {env : List (List ByteArray)} (h : PlA M w tp sp sb N T vc vf env) (cls : Option Nat) (fn : Bool) {b : Nat} {t c : Tree} {r : List Tree} (hn : NodeAt (fun k => k < M) w (.pointer (some ⟨b, 0, none⟩)) t) (hk : t.kids = c :: r) (hwf : ∀ g ∈ T.fns, ∃ p q, g.kids = p :: q) {R : Bool} (hR : callOk T t = R) :
    Calls Tryz.prog 71 #[plV tp sp cls fn, .pointer (some ⟨b, 0, none⟩)] w fun e w' => ItPost w R e w' := by
  have hR2 : (match firstOf T.fns c.text with
    | none => false
    | some i => (T.fns[i]?).elim false fun g => takesN g == r.length) = R := by
    rw [← hR, callOk, hk]
  have HR := hide hR2
  clear hR hR2
  obtain ⟨g, cap, b1, c5, d0, hn1, lb, lg, lb1, hm1, hm2⟩ := kid0 hn hk
  obtain ⟨ks, hv⟩ := node_view hn
  obtain ⟨ks1, hv1⟩ := node_view hn1
  unfold plV
  generalize clsV cls = cv
  have hb1 := (Below.refl w.heap.size w).alloc (Nat.le_refl _) (.cells #[.pointer (some ⟨tp, 0, none⟩), .pointer (some ⟨sp, 0, none⟩), .int .i64 cv, .bool fn] 49)
  have p0 := hcell (hnew w (.cells #[.pointer (some ⟨tp, 0, none⟩), .pointer (some ⟨sp, 0, none⟩), .int .i64 cv, .bool fn] 49)) 0
  simp only [List.getElem?_toArray, List.getElem?_cons_zero, List.getElem?_cons_succ] at p0
  have HP1 := hide (h.keep hb1)
  have HN1 := hide (node_keep hn fun k hk => hb1.block k (Nat.lt_of_lt_of_le hk h.hM))
  have HB1 := hide hb1
  have hsz : w.heap.size < (w.alloc (.cells #[.pointer (some ⟨tp, 0, none⟩), .pointer (some ⟨sp, 0, none⟩), .int .i64 cv, .bool fn] 49)).heap.size := by simp
  have e4 := hcellB hb1 hv.c4
  have e5 := hcellB hb1 c5
  have g0 := hcellB hb1 d0
  have f1 := hcellB hb1 hv1.c1
  have f4 := hcellB hb1 hv1.c4
  have HWF := hide hwf
  have lb' : b < w.heap.size := Nat.lt_of_lt_of_le lb h.hM
  obtain ⟨L, hL⟩ : ∃ L, r.length = L := ⟨_, rfl⟩
  rw [hL] at e5 hm1 hm2
  have HL := hide hL
  unfold maxLen at hm1
  have n0 : (0 : Int) < ((L + 1 : Nat) : Int) := by omega
  have n1 : (1 : Int) ≤ ((L + 1 : Nat) : Int) := by omega
  have n2 : ((L + 1 : Nat) : Int) ≤ (cap : Int) := by omega
  have n3 : (1 : Nat) ≤ L + 1 := by omega
  have n4 : (1 : Int) ≤ (L : Int) + 1 := by omega
  have entF : ∀ w : World, Sem.run Tryz.prog (callFunc 7 #[.pointer (some ⟨tp, 0, none⟩), .string c.text]) w = .ok (.enter 7 #[.pointer (some ⟨tp, 0, none⟩), .string c.text]) w := fun _ => by kernel_rfl
  clear h hn hn1 hv hv1 hwf hb1 c5 d0 hL
  go_enter Tryz.func71, Tryz.ntmps71
  go_wp2_with fail
  generalize w.alloc (.cells #[.pointer (some ⟨tp, 0, none⟩), .pointer (some ⟨sp, 0, none⟩), .int .i64 cv, .bool fn] 49) = W at *
  refine wp_region_held_drew (S := fun w' => w'.cell? ⟨b, 5, none⟩ = some (.slice (some ⟨g, 0, none⟩) (L + 1) cap) ∧ w'.cell? ⟨g, 0, none⟩ = some (.pointer (some ⟨b1, 0, none⟩))) (by kernel_rfl) ⟨e5, g0⟩ (fun hHeld => ?_)
  refine wpAnyH_take (i := 0) (oi := { dst := some 8, op := _, type := _, pos := _, after := _, guard := _ }) (v := ?_) rfl (by kernel_rfl) (by kernel_rfl) (by kernel_rfl) (fun _ _ _ h => h) (Or.inl ⟨by rfl, ?_⟩) (by assumption) ?_
  case refine_2 =>
    intro w hSw
    try dsimp only at hSw
    go_simp
    try with_reducible rfl
  simp only [Act.put, List.setIfInBounds_toArray, List.set_cons_zero, List.set_cons_succ]
  refine wpAnyH_take (i := 1) (oi := { dst := some 9, op := _, type := _, pos := _, after := _, guard := _ }) (v := ?_) rfl (by kernel_rfl) (by kernel_rfl) (by kernel_rfl) (fun _ _ _ h => h) (Or.inl ⟨by rfl, ?_⟩) (by assumption) ?_
  case refine_2 =>
    intro w hSw
    try dsimp only at hSw
    go_simp
    try with_reducible rfl
  simp only [Act.put, List.setIfInBounds_toArray, List.set_cons_zero, List.set_cons_succ]
  refine wpAnyH_take (i := 2) (oi := { dst := some 10, op := _, type := _, pos := _, after := _, guard := _ }) (v := ?_) rfl (by kernel_rfl) (by kernel_rfl) (by kernel_rfl) (fun _ _ _ h => h) (Or.inl ⟨by rfl, ?_⟩) (by assumption) ?_
  case refine_2 =>
    intro w hSw
    try dsimp only at hSw
    go_simp
    try with_reducible rfl
  simp only [Act.put, List.setIfInBounds_toArray, List.set_cons_zero, List.set_cons_succ]
  refine wpAnyH_take (i := 3) (oi := { dst := some 11, op := _, type := _, pos := _, after := _, guard := _ }) (v := ?_) rfl (by kernel_rfl) (by kernel_rfl) (by kernel_rfl) (fun _ _ _ h => h) (Or.inl ⟨by rfl, ?_⟩) (by assumption) ?_
  case refine_2 =>
    intro w hSw
    try dsimp only at hSw
    go_simp
    try with_reducible rfl
  simp only [Act.put, List.setIfInBounds_toArray, List.set_cons_zero, List.set_cons_succ]
  refine wpAnyH_take (i := 4) (oi := { dst := some 12, op := _, type := _, pos := _, after := _, guard := _ }) (v := ?_) rfl (by kernel_rfl) (by kernel_rfl) (by kernel_rfl) (fun _ _ _ h => h) (Or.inl ⟨by rfl, ?_⟩) (by assumption) ?_
  case refine_2 =>
    intro w hSw
    try dsimp only at hSw
    go_simp
    try with_reducible rfl
  simp only [Act.put, List.setIfInBounds_toArray, List.set_cons_zero, List.set_cons_succ]
  refine wpAnyH_take (i := 5) (oi := { dst := some 13, op := _, type := _, pos := _, after := _, guard := _ }) (v := ?_) rfl (by kernel_rfl) (by kernel_rfl) (by kernel_rfl) (fun _ _ _ h => h) (Or.inl ⟨by rfl, ?_⟩) (by assumption) ?_
  case refine_2 =>
    intro w hSw
    try dsimp only at hSw
    go_simp
    try with_reducible rfl
  simp only [Act.put, List.setIfInBounds_toArray, List.set_cons_zero, List.set_cons_succ]
  refine wpAnyH_take (i := 6) (oi := { dst := some 14, op := _, type := _, pos := _, after := _, guard := _ }) (v := ?_) rfl (by kernel_rfl) (by kernel_rfl) (by kernel_rfl) (fun _ _ _ h => h) (Or.inl ⟨by rfl, ?_⟩) (by assumption) ?_
  case refine_2 =>
    intro w hSw
    try dsimp only at hSw
    go_simp
    try with_reducible rfl
  simp only [Act.put, List.setIfInBounds_toArray, List.set_cons_zero, List.set_cons_succ]
  refine wpAnyH_take (i := 7) (oi := { dst := some 15, op := _, type := _, pos := _, after := _, guard := _ }) (v := ?_) rfl (by kernel_rfl) (by kernel_rfl) (by kernel_rfl) (fun _ _ _ h => h) (Or.inl ⟨by rfl, ?_⟩) (by assumption) ?_
  case refine_2 =>
    intro w hSw
    try dsimp only at hSw
    go_simp
    try with_reducible rfl
  simp only [Act.put, List.setIfInBounds_toArray, List.set_cons_zero, List.set_cons_succ]
  refine wpAnyH_take (i := 8) (oi := { dst := some 16, op := _, type := _, pos := _, after := _, guard := _ }) (v := ?_) rfl (by kernel_rfl) (by kernel_rfl) (by kernel_rfl) (fun _ _ _ h => h) (Or.inl ⟨by rfl, ?_⟩) (by assumption) ?_
  case refine_2 =>
    intro w hSw
    try dsimp only at hSw
    go_simp
    try with_reducible rfl
  simp only [Act.put, List.setIfInBounds_toArray, List.set_cons_zero, List.set_cons_succ]
  refine wpAnyH_take (i := 9) (oi := { dst := some 17, op := _, type := _, pos := _, after := _, guard := _ }) (v := ?_) rfl (by kernel_rfl) (by kernel_rfl) (by kernel_rfl) (fun _ _ _ h => h) (Or.inl ⟨by rfl, ?_⟩) (by assumption) ?_
  case refine_2 =>
    intro w hSw
    try dsimp only at hSw
    go_simp
    try with_reducible rfl
  simp only [Act.put, List.setIfInBounds_toArray, List.set_cons_zero, List.set_cons_succ]
  refine wpAnyH_take (i := 10) (oi := { dst := some 18, op := _, type := _, pos := _, after := _, guard := _ }) (v := ?_) rfl (by kernel_rfl) (by kernel_rfl) (by kernel_rfl) (fun _ _ _ h => h) (Or.inl ⟨by rfl, ?_⟩) (by assumption) ?_
  case refine_2 =>
    intro w hSw
    try dsimp only at hSw
    go_simp
    try with_reducible rfl
  simp only [Act.put, List.setIfInBounds_toArray, List.set_cons_zero, List.set_cons_succ]
  refine wpAnyH_take (i := 11) (oi := { dst := some 5, op := _, type := _, pos := _, after := _, guard := _ }) (v := ?_) rfl (by kernel_rfl) (by kernel_rfl) (by kernel_rfl) (fun _ _ _ h => h) (Or.inl ⟨by rfl, ?_⟩) (by assumption) ?_
  case refine_2 =>
    intro w hSw
    try dsimp only at hSw
    go_simp
    try with_reducible rfl
  simp only [Act.put, List.setIfInBounds_toArray, List.set_cons_zero, List.set_cons_succ]
  refine wpAnyH_take (i := 12) (oi := { dst := some 6, op := _, type := _, pos := _, after := _, guard := _ }) (v := ?_) rfl (by kernel_rfl) (by kernel_rfl) (by kernel_rfl) (fun _ _ _ h => h) (Or.inl ⟨by rfl, ?_⟩) (by assumption) ?_
  case refine_2 =>
    intro w hSw
    try dsimp only at hSw
    go_simp
    try with_reducible rfl
  simp only [Act.put, List.setIfInBounds_toArray, List.set_cons_zero, List.set_cons_succ]
  refine wpAnyH_done (by kernel_rfl) ?_ _
  clear hHeld
  generalize (if cap = 1 then some (⟨g, 0, none⟩ : Addr) else some ⟨g, 1, none⟩) = gb
  go_wp2_with fail
  refine wp_region_held_drew (S := fun w' => w'.cell? ⟨w.heap.size, 0, none⟩ = some (.pointer (some ⟨tp, 0, none⟩)) ∧ w'.cell? ⟨b1, 1, none⟩ = some (.string c.text)) (by kernel_rfl) ⟨p0, f1⟩ (fun hHeld => ?_)
  refine wpAnyH_take (i := 0) (oi := { dst := some 19, op := _, type := _, pos := _, after := _, guard := _ }) (v := ?_) rfl (by kernel_rfl) (by kernel_rfl) (by kernel_rfl) (fun _ _ _ h => h) (Or.inl ⟨by rfl, ?_⟩) (by assumption) ?_
  case refine_2 =>
    intro w hSw
    try dsimp only at hSw
    go_simp
    try with_reducible rfl
  simp only [Act.put, List.setIfInBounds_toArray, List.set_cons_zero, List.set_cons_succ]
  refine wpAnyH_take (i := 1) (oi := { dst := some 20, op := _, type := _, pos := _, after := _, guard := _ }) (v := ?_) rfl (by kernel_rfl) (by kernel_rfl) (by kernel_rfl) (fun _ _ _ h => h) (Or.inl ⟨by rfl, ?_⟩) (by assumption) ?_
  case refine_2 =>
    intro w hSw
    try dsimp only at hSw
    go_simp
    try with_reducible rfl
  simp only [Act.put, List.setIfInBounds_toArray, List.set_cons_zero, List.set_cons_succ]
  refine wpAnyH_take (i := 2) (oi := { dst := some 21, op := _, type := _, pos := _, after := _, guard := _ }) (v := ?_) rfl (by kernel_rfl) (by kernel_rfl) (by kernel_rfl) (fun _ _ _ h => h) (Or.inl ⟨by rfl, ?_⟩) (by assumption) ?_
  case refine_2 =>
    intro w hSw
    try dsimp only at hSw
    go_simp
    try with_reducible rfl
  simp only [Act.put, List.setIfInBounds_toArray, List.set_cons_zero, List.set_cons_succ]
  refine wpAnyH_take (i := 3) (oi := { dst := some 22, op := _, type := _, pos := _, after := _, guard := _ }) (v := ?_) rfl (by kernel_rfl) (by kernel_rfl) (by kernel_rfl) (fun _ _ _ h => h) (Or.inl ⟨by rfl, ?_⟩) (by assumption) ?_
  case refine_2 =>
    intro w hSw
    try dsimp only at hSw
    go_simp
    try with_reducible rfl
  simp only [Act.put, List.setIfInBounds_toArray, List.set_cons_zero, List.set_cons_succ]
  refine wpAnyH_take (i := 4) (oi := { dst := some 23, op := _, type := _, pos := _, after := _, guard := _ }) (v := ?_) rfl (by kernel_rfl) (by kernel_rfl) (by kernel_rfl) (fun _ _ _ h => h) (Or.inl ⟨by rfl, ?_⟩) (by assumption) ?_
  case refine_2 =>
    intro w hSw
    try dsimp only at hSw
    go_simp
    try with_reducible rfl
  simp only [Act.put, List.setIfInBounds_toArray, List.set_cons_zero, List.set_cons_succ]
  refine wpAnyH_take (i := 5) (oi := { dst := some 24, op := _, type := _, pos := _, after := _, guard := _ }) (v := ?_) rfl (by kernel_rfl) (by kernel_rfl) (by kernel_rfl) (fun _ _ _ h => h) (Or.inl ⟨by rfl, ?_⟩) (by assumption) ?_
  case refine_2 =>
    intro w hSw
    try dsimp only at hSw
    go_simp
    try with_reducible rfl
  simp only [Act.put, List.setIfInBounds_toArray, List.set_cons_zero, List.set_cons_succ]
  refine wpAnyH_ready (rs := [6]) (by kernel_rfl) (by simp) ?_
  refine AllReadyH.cons (o := { dst := some 25, op := _, type := _, pos := _, after := _, guard := _ }) rfl (fun K hK => ?_) AllReadyH.nil
  refine step_enterG (by kernel_rfl) (by simp [Act.eval, entF, go_sem]) ((tabFn_any (w := W.drew.drew) ((unhide HP1).tab.keep fun k hk => rfl) c.text).mono ?_)
  rintro e W2 ⟨rfl, hb2⟩
  have HP2 := hide ((unhide HP1).keep (w' := W2) ⟨hb2.os, hb2.tape, hb2.output, hb2.size, hb2.block⟩)
  have HB2 := hide ((Below.drew (Below.drew (unhide HB1))).trans (hb2.mono (unhide HB1).size))
  have z0 := cellB hb2 p0 hsz
  have z1 := hcellB hb2 f1
  have z4 := hcellB hb2 e4
  have y4 := hcellB hb2 f4
  clear hb2
  refine hK.out _ _ ⟨z0, z1⟩ (fun hHeld6 => ?_)
  clear hK K
  simp only [Act.put, List.setIfInBounds_toArray, List.set_cons_zero, List.set_cons_succ]
  refine wpAnyH_take (i := 7) (oi := { dst := some 7, op := _, type := _, pos := _, after := _, guard := _ }) (v := ?_) rfl (by kernel_rfl) (by kernel_rfl) (by kernel_rfl) (fun _ _ _ h => h) (Or.inl ⟨by rfl, ?_⟩) (by assumption) ?_
  case refine_2 =>
    intro w hSw
    try dsimp only at hSw
    go_simp
    try with_reducible rfl
  simp only [Act.put, List.setIfInBounds_toArray, List.set_cons_zero, List.set_cons_succ]
  refine wpAnyH_done (by kernel_rfl) ?_ _
  clear hHeld hHeld6 p0 e4 e5 f1 f4 g0
  cases hf : firstOf T.fns c.text with
  | none =>
    rw [show clsV none = -1 from rfl]
    have HF := hide hf
    clear hf
    go_wp2_with fail
    refine (wrong_any 5 y4).mono ?_
    rintro e W3 ⟨hb3, pp, rfl⟩
    have HB3 := hide ((unhide HB2).trans (hb3.mono (unhide HB2).size))
    clear hb3
    go_wp2_with fail
    go_ret
    exact ⟨unhide HB3, Or.inr ⟨by have := unhide HR; rw [unhide HF] at this; exact this.symm, _, _, rfl⟩⟩
  | some i =>
    rw [show clsV (some i) = (i : Int) from rfl]
    obtain ⟨q, hq, _⟩ := first_get hf
    have d0 : ((i : Int) == -1) = false := by simp
    have d1 : ¬ ((i : Int) = -1) := by omega
    have t1 : W2.cell? ⟨tp, 1, none⟩ = some vf := hcell (unhide HP2).tab.blk 1
    obtain ⟨gf, cf, rfl, hmf, hatf⟩ := (unhide HP2).tab.fns
    obtain ⟨a, qb, rfl, _, hcq, hnq⟩ := hatf i q hq
    obtain ⟨p, q2, hkq⟩ := unhide HWF q (List.mem_of_getElem? hq)
    have hi : (i : Int) < (T.fns.length : Int) := by have := (List.getElem?_eq_some_iff.1 hq).1; omega
    have HF := hide (show R = (takesN q == r.length) by have := unhide HR; rw [hf] at this; simp only at this; rw [hq] at this; exact this.symm)
    have HNQ := hide hnq
    have HKQ := hide hkq
    clear hf hq hatf hnq hkq hmf
    go_wp2_with fail
    refine (takes_any (unhide HNQ) (unhide HKQ)).mono ?_
    rintro e W4 ⟨rfl, hb4⟩
    have x4 := hcellB hb4 z4
    have HB4 := hide ((unhide HB2).trans (hb4.mono (unhide HB2).size))
    obtain ⟨tk, htk⟩ : ∃ tk, takesN q = tk := ⟨_, rfl⟩
    rw [htk]
    have HTK := hide htk
    clear hb4 z4 htk
    by_cases hk : tk = L
    · have dk : ((tk : Int) == (L : Int)) = true := by rw [hk]; simp
      have HK := hide hk
      subst hk
      go_wp2_with fail
      go_ret
      exact ⟨unhide HB4, Or.inl ⟨by rw [unhide HF, unhide HTK, unhide HL]; simp, rfl⟩⟩
    · have dk : ((tk : Int) == (L : Int)) = false := by simp; omega
      have dk2 : ¬ (tk : Int) = (L : Int) := by omega
      have HK := hide hk
      clear hk
      go_wp2_with fail
      refine (wrong_any 1 x4).mono ?_
      rintro e W3 ⟨hb3, pp, rfl⟩
      have HB3 := hide ((unhide HB4).trans (hb3.mono (unhide HB4).size))
      clear hb3
      go_wp2_with fail
      go_ret
      exact ⟨unhide HB3, Or.inr ⟨by rw [unhide HF, unhide HTK, unhide HL]; simpa using unhide HK, _, _, rfl⟩⟩

set_option maxRecDepth 100000 in
set_option maxHeartbeats 8000000 in
theorem super_any {M : Nat} {w : World} {tp sp sb N : Nat} {T : Tab} {vc vf : Value} {env : List (List ByteArray)} (h : PlA M w tp sp sb N T vc vf env) (cls : Option Nat) (hcls : ClsOk T.cs cls) (fn : Bool) {b : Nat} {t : Tree} (hn : NodeAt (fun k => k < M) w (.pointer (some ⟨b, 0, none⟩)) t) {R : Bool} (hR : superOk T cls t = R) :
    Calls Tryz.prog 72 #[plV tp sp cls fn, .pointer (some ⟨b, 0, none⟩)] w fun e w' => ItPost w R e w' := by
  have HR := hide hR
  have HCLS := hide hcls
  clear hR hcls
  obtain ⟨ks, hv⟩ := node_view hn
  unfold plV
  have hb1 := (Below.refl w.heap.size w).alloc (Nat.le_refl _) (.cells #[.pointer (some ⟨tp, 0, none⟩), .pointer (some ⟨sp, 0, none⟩), .int .i64 (clsV cls), .bool fn] 49)
  have p0 := hcell (hnew w (.cells #[.pointer (some ⟨tp, 0, none⟩), .pointer (some ⟨sp, 0, none⟩), .int .i64 (clsV cls), .bool fn] 49)) 0
  have p2 := hcell (hnew w (.cells #[.pointer (some ⟨tp, 0, none⟩), .pointer (some ⟨sp, 0, none⟩), .int .i64 (clsV cls), .bool fn] 49)) 2
  simp only [List.getElem?_toArray, List.getElem?_cons_zero, List.getElem?_cons_succ] at p0 p2
  have HP1 := hide (h.keep hb1)
  have HN1 := hide (node_keep hn fun k hk => hb1.block k (Nat.lt_of_lt_of_le hk h.hM))
  have HB1 := hide hb1
  have hsz : w.heap.size < (w.alloc (.cells #[.pointer (some ⟨tp, 0, none⟩), .pointer (some ⟨sp, 0, none⟩), .int .i64 (clsV cls), .bool fn] 49)).heap.size := by simp
  have e1 := hcellB hb1 hv.c1
  have e4 := hcellB hb1 hv.c4
  clear h hn hv hb1
  cases cls with
  | none =>
    rw [show clsV none = -1 from rfl] at *
    go_enter Tryz.func72, Tryz.ntmps72
    go_wp2_with fail
    refine (wrong_any 6 e4).mono ?_
    rintro e W3 ⟨hb3, pp, rfl⟩
    have HB3 := hide ((unhide HB1).trans (hb3.mono (unhide HB1).size))
    clear hb3
    go_wp2_with fail
    go_ret
    exact ⟨unhide HB3, Or.inr ⟨by rw [← unhide HR]; rfl, _, _, rfl⟩⟩
  | some c =>
    rw [show clsV (some c) = (c : Int) from rfl] at *
    obtain ⟨d, hd⟩ := unhide HCLS c rfl
    have d0 : ((c : Int) == -1) = false := by simp
    have d1 : ¬ ((c : Int) = -1) := by omega
    have hab : aboveOf T.cs c = numF T.cs d.under := by unfold aboveOf; rw [hd]; rfl
    have HAB := hide (show superOk T (some c) t = (match numF T.cs d.under with
      | none => false
      | some a => (methodUp T.cs t.text T.cs.length (some a)).isSome) by show (match aboveOf T.cs c with
      | none => false
      | some a => (methodUp T.cs t.text T.cs.length (some a)).isSome) = _; rw [hab])
    obtain ⟨g, cap, vl, vm, rfl, hg, a0, a1, a2, a3, _, _⟩ := (unhide HP1).tab.cls c d hd
    have t0 := hcell (unhide HP1).tab.blk 0
    simp only [List.getElem?_toArray, List.getElem?_cons_zero, List.getElem?_cons_succ] at t0
    have hcl : (c : Int) < (T.cs.length : Int) := by have := (List.getElem?_eq_some_iff.1 hd).1; omega
    obtain ⟨av, hav⟩ : ∃ av, numF T.cs d.under = av := ⟨_, rfl⟩
    rw [hav] at a1
    have HAV := hide hav
    have HAC := hide (show ClsOk T.cs av from fun q hq => by obtain ⟨x, hx, _⟩ := numF_some (hav.trans hq); exact ⟨x, hx⟩)
    have entM : ∀ w : World, Sem.run Tryz.prog (callFunc 95 #[.pointer (some ⟨tp, 0, none⟩), .int .i64 (clsV av), .string t.text]) w = .ok (.enter 95 #[.pointer (some ⟨tp, 0, none⟩), .int .i64 (clsV av), .string t.text]) w := fun _ => by kernel_rfl
    clear hd hab a0 a2 a3 hav hg
    go_enter Tryz.func72, Tryz.ntmps72
    go_wp2_with fail
    generalize w.alloc (.cells #[.pointer (some ⟨tp, 0, none⟩), .pointer (some ⟨sp, 0, none⟩), .int .i64 (c : Int), .bool fn] 49) = W at *
    refine wp_region_held_drew (S := fun w' => w'.cell? ⟨w.heap.size, 0, none⟩ = some (.pointer (some ⟨tp, 0, none⟩)) ∧ w'.cell? ⟨w.heap.size, 2, none⟩ = some (.int .i64 (c : Int)) ∧ w'.cell? ⟨tp, 0, none⟩ = some (.slice (some ⟨g, 0, none⟩) T.cs.length cap) ∧ w'.cell? ⟨g, c * 4 + 1, none⟩ = some (.int .i64 (clsV av))) (by kernel_rfl) ⟨p0, p2, t0, a1⟩ (fun hHeld => ?_)
    refine wpAnyH_take (i := 0) (oi := { dst := some 13, op := _, type := _, pos := _, after := _, guard := _ }) (v := ?_) rfl (by kernel_rfl) (by kernel_rfl) (by kernel_rfl) (fun _ _ _ h => h) (Or.inl ⟨by rfl, ?_⟩) (by assumption) ?_
    case refine_2 =>
      intro w hSw
      try dsimp only at hSw
      go_simp
      try with_reducible rfl
    simp only [Act.put, List.setIfInBounds_toArray, List.set_cons_zero, List.set_cons_succ]
    refine wpAnyH_take (i := 1) (oi := { dst := some 14, op := _, type := _, pos := _, after := _, guard := _ }) (v := ?_) rfl (by kernel_rfl) (by kernel_rfl) (by kernel_rfl) (fun _ _ _ h => h) (Or.inl ⟨by rfl, ?_⟩) (by assumption) ?_
    case refine_2 =>
      intro w hSw
      try dsimp only at hSw
      go_simp
      try with_reducible rfl
    simp only [Act.put, List.setIfInBounds_toArray, List.set_cons_zero, List.set_cons_succ]
    refine wpAnyH_take (i := 2) (oi := { dst := some 15, op := _, type := _, pos := _, after := _, guard := _ }) (v := ?_) rfl (by kernel_rfl) (by kernel_rfl) (by kernel_rfl) (fun _ _ _ h => h) (Or.inl ⟨by rfl, ?_⟩) (by assumption) ?_
    case refine_2 =>
      intro w hSw
      try dsimp only at hSw
      go_simp
      try with_reducible rfl
    simp only [Act.put, List.setIfInBounds_toArray, List.set_cons_zero, List.set_cons_succ]
    refine wpAnyH_take (i := 3) (oi := { dst := some 16, op := _, type := _, pos := _, after := _, guard := _ }) (v := ?_) rfl (by kernel_rfl) (by kernel_rfl) (by kernel_rfl) (fun _ _ _ h => h) (Or.inl ⟨by rfl, ?_⟩) (by assumption) ?_
    case refine_2 =>
      intro w hSw
      try dsimp only at hSw
      go_simp
      try with_reducible rfl
    simp only [Act.put, List.setIfInBounds_toArray, List.set_cons_zero, List.set_cons_succ]
    refine wpAnyH_take (i := 4) (oi := { dst := some 17, op := _, type := _, pos := _, after := _, guard := _ }) (v := ?_) rfl (by kernel_rfl) (by kernel_rfl) (by kernel_rfl) (fun _ _ _ h => h) (Or.inl ⟨by rfl, ?_⟩) (by assumption) ?_
    case refine_2 =>
      intro w hSw
      try dsimp only at hSw
      go_simp
      try with_reducible rfl
    simp only [Act.put, List.setIfInBounds_toArray, List.set_cons_zero, List.set_cons_succ]
    refine wpAnyH_take (i := 5) (oi := { dst := some 18, op := _, type := _, pos := _, after := _, guard := _ }) (v := ?_) rfl (by kernel_rfl) (by kernel_rfl) (by kernel_rfl) (fun _ _ _ h => h) (Or.inl ⟨by rfl, ?_⟩) (by assumption) ?_
    case refine_2 =>
      intro w hSw
      try dsimp only at hSw
      go_simp
      try with_reducible rfl
    simp only [Act.put, List.setIfInBounds_toArray, List.set_cons_zero, List.set_cons_succ]
    refine wpAnyH_take (i := 6) (oi := { dst := some 19, op := _, type := _, pos := _, after := _, guard := _ }) (v := ?_) rfl (by kernel_rfl) (by kernel_rfl) (by kernel_rfl) (fun _ _ _ h => h) (Or.inl ⟨by rfl, ?_⟩) (by assumption) ?_
    case refine_2 =>
      intro w hSw
      try dsimp only at hSw
      go_simp
      try with_reducible rfl
    simp only [Act.put, List.setIfInBounds_toArray, List.set_cons_zero, List.set_cons_succ]
    refine wpAnyH_take (i := 7) (oi := { dst := some 20, op := _, type := _, pos := _, after := _, guard := _ }) (v := ?_) rfl (by kernel_rfl) (by kernel_rfl) (by kernel_rfl) (fun _ _ _ h => h) (Or.inl ⟨by rfl, ?_⟩) (by assumption) ?_
    case refine_2 =>
      intro w hSw
      try dsimp only at hSw
      go_simp
      try with_reducible rfl
    simp only [Act.put, List.setIfInBounds_toArray, List.set_cons_zero, List.set_cons_succ]
    refine wpAnyH_take (i := 8) (oi := { dst := some 21, op := _, type := _, pos := _, after := _, guard := _ }) (v := ?_) rfl (by kernel_rfl) (by kernel_rfl) (by kernel_rfl) (fun _ _ _ h => h) (Or.inl ⟨by rfl, ?_⟩) (by assumption) ?_
    case refine_2 =>
      intro w hSw
      try dsimp only at hSw
      go_simp
      try with_reducible rfl
    simp only [Act.put, List.setIfInBounds_toArray, List.set_cons_zero, List.set_cons_succ]
    refine wpAnyH_take (i := 9) (oi := { dst := some 22, op := _, type := _, pos := _, after := _, guard := _ }) (v := ?_) rfl (by kernel_rfl) (by kernel_rfl) (by kernel_rfl) (fun _ _ _ h => h) (Or.inl ⟨by rfl, ?_⟩) (by assumption) ?_
    case refine_2 =>
      intro w hSw
      try dsimp only at hSw
      go_simp
      try with_reducible rfl
    simp only [Act.put, List.setIfInBounds_toArray, List.set_cons_zero, List.set_cons_succ]
    refine wpAnyH_take (i := 10) (oi := { dst := some 5, op := _, type := _, pos := _, after := _, guard := _ }) (v := ?_) rfl (by kernel_rfl) (by kernel_rfl) (by kernel_rfl) (fun _ _ _ h => h) (Or.inl ⟨by rfl, ?_⟩) (by assumption) ?_
    case refine_2 =>
      intro w hSw
      try dsimp only at hSw
      go_simp
      try with_reducible rfl
    simp only [Act.put, List.setIfInBounds_toArray, List.set_cons_zero, List.set_cons_succ]
    refine wpAnyH_done (by kernel_rfl) ?_ _
    clear hHeld
    cases av with
    | none =>
      rw [show clsV none = -1 from rfl]
      go_wp2_with fail
      refine (wrong_any (w := W.drew) 6 e4).mono ?_
      rintro e W3 ⟨hb3, pp, rfl⟩
      have HB3 := hide ((Below.drew (unhide HB1)).trans (hb3.mono (unhide HB1).size))
      clear hb3
      go_wp2_with fail
      go_ret
      exact ⟨unhide HB3, Or.inr ⟨by rw [← unhide HR, unhide HAB, unhide HAV], _, _, rfl⟩⟩
    | some a =>
      rw [show clsV (some a) = (a : Int) from rfl] at *
      have d2 : ((a : Int) == -1) = false := by simp
      have d3 : ¬ ((a : Int) = -1) := by omega
      go_wp2_with fail
      refine wp_region_held_drew (S := fun w' => w'.cell? ⟨w.heap.size, 0, none⟩ = some (.pointer (some ⟨tp, 0, none⟩)) ∧ w'.cell? ⟨b, 1, none⟩ = some (.string t.text)) (by kernel_rfl) ⟨p0, e1⟩ (fun hHeld => ?_)
      refine wpAnyH_take (i := 0) (oi := { dst := some 28, op := _, type := _, pos := _, after := _, guard := _ }) (v := ?_) rfl (by kernel_rfl) (by kernel_rfl) (by kernel_rfl) (fun _ _ _ h => h) (Or.inl ⟨by rfl, ?_⟩) (by assumption) ?_
      case refine_2 =>
        intro w hSw
        try dsimp only at hSw
        go_simp
        try with_reducible rfl
      simp only [Act.put, List.setIfInBounds_toArray, List.set_cons_zero, List.set_cons_succ]
      refine wpAnyH_take (i := 1) (oi := { dst := some 29, op := _, type := _, pos := _, after := _, guard := _ }) (v := ?_) rfl (by kernel_rfl) (by kernel_rfl) (by kernel_rfl) (fun _ _ _ h => h) (Or.inl ⟨by rfl, ?_⟩) (by assumption) ?_
      case refine_2 =>
        intro w hSw
        try dsimp only at hSw
        go_simp
        try with_reducible rfl
      simp only [Act.put, List.setIfInBounds_toArray, List.set_cons_zero, List.set_cons_succ]
      refine wpAnyH_take (i := 2) (oi := { dst := some 30, op := _, type := _, pos := _, after := _, guard := _ }) (v := ?_) rfl (by kernel_rfl) (by kernel_rfl) (by kernel_rfl) (fun _ _ _ h => h) (Or.inl ⟨by rfl, ?_⟩) (by assumption) ?_
      case refine_2 =>
        intro w hSw
        try dsimp only at hSw
        go_simp
        try with_reducible rfl
      simp only [Act.put, List.setIfInBounds_toArray, List.set_cons_zero, List.set_cons_succ]
      refine wpAnyH_take (i := 3) (oi := { dst := some 31, op := _, type := _, pos := _, after := _, guard := _ }) (v := ?_) rfl (by kernel_rfl) (by kernel_rfl) (by kernel_rfl) (fun _ _ _ h => h) (Or.inl ⟨by rfl, ?_⟩) (by assumption) ?_
      case refine_2 =>
        intro w hSw
        try dsimp only at hSw
        go_simp
        try with_reducible rfl
      simp only [Act.put, List.setIfInBounds_toArray, List.set_cons_zero, List.set_cons_succ]
      refine wpAnyH_take (i := 4) (oi := { dst := some 32, op := _, type := _, pos := _, after := _, guard := _ }) (v := ?_) rfl (by kernel_rfl) (by kernel_rfl) (by kernel_rfl) (fun _ _ _ h => h) (Or.inl ⟨by rfl, ?_⟩) (by assumption) ?_
      case refine_2 =>
        intro w hSw
        try dsimp only at hSw
        go_simp
        try with_reducible rfl
      simp only [Act.put, List.setIfInBounds_toArray, List.set_cons_zero, List.set_cons_succ]
      refine wpAnyH_take (i := 5) (oi := { dst := some 33, op := _, type := _, pos := _, after := _, guard := _ }) (v := ?_) rfl (by kernel_rfl) (by kernel_rfl) (by kernel_rfl) (fun _ _ _ h => h) (Or.inl ⟨by rfl, ?_⟩) (by assumption) ?_
      case refine_2 =>
        intro w hSw
        try dsimp only at hSw
        go_simp
        try with_reducible rfl
      simp only [Act.put, List.setIfInBounds_toArray, List.set_cons_zero, List.set_cons_succ]
      refine wpAnyH_take (i := 6) (oi := { dst := some 34, op := _, type := _, pos := _, after := _, guard := _ }) (v := ?_) rfl (by kernel_rfl) (by kernel_rfl) (by kernel_rfl) (fun _ _ _ h => h) (Or.inl ⟨by rfl, ?_⟩) (by assumption) ?_
      case refine_2 =>
        intro w hSw
        try dsimp only at hSw
        go_simp
        try with_reducible rfl
      simp only [Act.put, List.setIfInBounds_toArray, List.set_cons_zero, List.set_cons_succ]
      refine wpAnyH_ready (rs := [7]) (by kernel_rfl) (by simp) ?_
      refine AllReadyH.cons (o := { dst := some 35, op := _, type := _, pos := _, after := _, guard := _ }) rfl (fun K hK => ?_) AllReadyH.nil
      refine step_enterG (by kernel_rfl) (by simp [Act.eval, entM, go_sem]) ((show Calls Tryz.prog 95 #[.pointer (some ⟨tp, 0, none⟩), .int .i64 (a : Int), .string t.text] W.drew.drew fun e w' => MethPost M W.drew.drew (methodUp T.cs t.text T.cs.length (some a)) e w' from tabMethod_any (w := W.drew.drew) ((unhide HP1).tab.keep fun k hk => rfl) (unhide HAC) t.text).mono ?_)
      rintro e W2 ⟨rfl, hm0⟩
      obtain ⟨v1, v2, rfl, hm⟩ : ∃ v1 v2, e = .returned (.tuple #[v1, v2]) ∧ ((v1 = .pointer none ∧ methodUp T.cs t.text T.cs.length (some a) = none) ∨ ∃ m mb, v1 = .pointer (some ⟨mb, 0, none⟩) ∧ methodUp T.cs t.text T.cs.length (some a) = some m) := by
        rcases hm0 with ⟨hr, rfl⟩ | ⟨m, mb, mk, hr, rfl, _⟩
        · exact ⟨_, _, rfl, Or.inl ⟨rfl, hr⟩⟩
        · exact ⟨_, _, rfl, Or.inr ⟨m, mb, rfl, hr⟩⟩
      clear hm0
      refine hK.out _ _ ⟨p0, e1⟩ (fun hHeld7 => ?_)
      clear hK K
      simp only [Act.put, List.setIfInBounds_toArray, List.set_cons_zero, List.set_cons_succ]
      refine wpAnyH_take (i := 8) (oi := { dst := some 27, op := _, type := _, pos := _, after := _, guard := _ }) (v := ?_) rfl (by kernel_rfl) (by kernel_rfl) (by kernel_rfl) (fun _ _ _ h => h) (Or.inl ⟨by rfl, ?_⟩) (by assumption) ?_
      case refine_2 =>
        intro w hSw
        try dsimp only at hSw
        go_simp
        try with_reducible rfl
      simp only [Act.put, List.setIfInBounds_toArray, List.set_cons_zero, List.set_cons_succ]
      refine wpAnyH_take (i := 9) (oi := { dst := some 36, op := _, type := _, pos := _, after := _, guard := _ }) (v := ?_) rfl (by kernel_rfl) (by kernel_rfl) (by kernel_rfl) (fun _ _ _ h => h) (Or.inl ⟨by rfl, ?_⟩) (by assumption) ?_
      case refine_2 =>
        intro w hSw
        try dsimp only at hSw
        go_simp
        try with_reducible rfl
      simp only [Act.put, List.setIfInBounds_toArray, List.set_cons_zero, List.set_cons_succ]
      refine wpAnyH_take (i := 10) (oi := { dst := some 37, op := _, type := _, pos := _, after := _, guard := _ }) (v := ?_) rfl (by kernel_rfl) (by kernel_rfl) (by kernel_rfl) (fun _ _ _ h => h) (Or.inl ⟨by rfl, ?_⟩) (by assumption) ?_
      case refine_2 =>
        intro w hSw
        try dsimp only at hSw
        go_simp
        try with_reducible rfl
      simp only [Act.put, List.setIfInBounds_toArray, List.set_cons_zero, List.set_cons_succ]
      refine wpAnyH_take (i := 11) (oi := { dst := some 6, op := _, type := _, pos := _, after := _, guard := _ }) (v := ?_) rfl (by kernel_rfl) (by kernel_rfl) (by kernel_rfl) (fun _ _ _ h => h) (Or.inl ⟨by rfl, ?_⟩) (by assumption) ?_
      case refine_2 =>
        intro w hSw
        try dsimp only at hSw
        go_simp
        try with_reducible rfl
      simp only [Act.put, List.setIfInBounds_toArray, List.set_cons_zero, List.set_cons_succ]
      refine wpAnyH_take (i := 12) (oi := { dst := some 7, op := _, type := _, pos := _, after := _, guard := _ }) (v := ?_) rfl (by kernel_rfl) (by kernel_rfl) (by kernel_rfl) (fun _ _ _ h => h) (Or.inl ⟨by rfl, ?_⟩) (by assumption) ?_
      case refine_2 =>
        intro w hSw
        try dsimp only at hSw
        go_simp
        try with_reducible rfl
      simp only [Act.put, List.setIfInBounds_toArray, List.set_cons_zero, List.set_cons_succ]
      refine wpAnyH_done (by kernel_rfl) ?_ _
      clear hHeld hHeld7
      rcases hm with ⟨rfl, hr⟩ | ⟨m, mb, rfl, hr⟩
      · have HM := hide hr
        clear hr
        go_wp2_with fail
        refine (wrong_any (w := W.drew.drew) 7 e4).mono ?_
        rintro e W3 ⟨hb3, pp, rfl⟩
        have HB3 := hide ((Below.drew (Below.drew (unhide HB1))).trans (hb3.mono (unhide HB1).size))
        clear hb3
        go_wp2_with fail
        go_ret
        exact ⟨unhide HB3, Or.inr ⟨by rw [← unhide HR, unhide HAB, unhide HAV]; simp only; rw [unhide HM]; rfl, _, _, rfl⟩⟩
      · have HM := hide hr
        clear hr
        go_wp2_with fail
        go_ret
        exact ⟨Below.drew (Below.drew (unhide HB1)), Or.inl ⟨by rw [← unhide HR, unhide HAB, unhide HAV]; simp only; rw [unhide HM]; rfl, rfl⟩⟩
end Go.Proofs.YtjcoobkpmpjpbaaGreatDoor

namespace Go.Proofs.YtjcoobkpmpjpbaaGreatDoor
open Go.RowKit Go.Maps
set_option linter.unusedSimpArgs false

set_option maxRecDepth 100000 in
set_option maxHeartbeats 8000000 in
theorem itself_this {M : Nat} {w : World} {tp sp sb N : Nat} {T : Tab} {vc vf : Value} {env : List (List ByteArray)} (h : PlA M w tp sp sb N T vc vf env) (cls : Option Nat) (fn : Bool) {b : Nat} {t : Tree} (hn : NodeAt (fun k => k < M) w (.pointer (some ⟨b, 0, none⟩)) t) (hk : t.kind = 23) {R : Bool} (hR : itselfP T cls fn env t = R) :
    Calls Tryz.prog 44 #[plV tp sp cls fn, .pointer (some ⟨b, 0, none⟩)] w fun e w' => ItPost w R e w' := by
  obtain ⟨ks, hv⟩ := node_view hn
  unfold plV
  have HR := hide (show cls.isSome = R by rw [← hR]; unfold itselfP; simp [hk])
  clear hR
  have hb1 := (Below.refl w.heap.size w).alloc (Nat.le_refl _) (.cells #[.pointer (some ⟨tp, 0, none⟩), .pointer (some ⟨sp, 0, none⟩), .int .i64 (clsV cls), .bool fn] 49)
  have p2 := hcell (hnew w (.cells #[.pointer (some ⟨tp, 0, none⟩), .pointer (some ⟨sp, 0, none⟩), .int .i64 (clsV cls), .bool fn] 49)) 2
  simp only [List.getElem?_toArray, List.getElem?_cons_zero, List.getElem?_cons_succ] at p2
  have HP1 := hide (h.keep hb1)
  have HN1 := hide (node_keep hn fun k hk => hb1.block k (Nat.lt_of_lt_of_le hk h.hM))
  have HB1 := hide hb1
  have hsz : w.heap.size < (w.alloc (.cells #[.pointer (some ⟨tp, 0, none⟩), .pointer (some ⟨sp, 0, none⟩), .int .i64 (clsV cls), .bool fn] 49)).heap.size := by simp
  have e0 := hcellB hb1 hv.c0
  have e1 := hcellB hb1 hv.c1
  have e4 := hcellB hb1 hv.c4
  rw [hk] at e0
  clear h hn hv hb1
  cases cls with
  | none =>
    rw [show clsV none = -1 from rfl] at *
    go_enter Tryz.func44, Tryz.ntmps44
    go_wp2_with fail
    refine (wrong_any 6 e4).mono ?_
    rintro e W9 ⟨hb9, pp, rfl⟩
    have HB9 := hide ((unhide HB1).trans (hb9.mono (unhide HB1).size))
    clear hb9
    go_wp2_with fail
    go_ret
    exact ⟨unhide HB9, Or.inr ⟨(unhide HR).symm, _, _, rfl⟩⟩
  | some c =>
    rw [show clsV (some c) = (c : Int) from rfl] at *
    have d0 : ((c : Int) == -1) = false := by simp
    have d1 : ¬ ((c : Int) = -1) := by omega
    go_enter Tryz.func44, Tryz.ntmps44
    go_wp2_with fail
    go_ret
    exact ⟨unhide HB1, Or.inl ⟨(unhide HR).symm, rfl⟩⟩

set_option maxRecDepth 100000 in
set_option maxHeartbeats 8000000 in
theorem itself_return {M : Nat} {w : World} {tp sp sb N : Nat} {T : Tab} {vc vf : Value} {env : List (List ByteArray)} (h : PlA M w tp sp sb N T vc vf env) (cls : Option Nat) (fn : Bool) {b : Nat} {t : Tree} (hn : NodeAt (fun k => k < M) w (.pointer (some ⟨b, 0, none⟩)) t) (hk : t.kind = 12) {R : Bool} (hR : itselfP T cls fn env t = R) :
    Calls Tryz.prog 44 #[plV tp sp cls fn, .pointer (some ⟨b, 0, none⟩)] w fun e w' => ItPost w R e w' := by
  obtain ⟨ks, hv⟩ := node_view hn
  unfold plV
  have HR := hide (show fn = R by rw [← hR]; unfold itselfP; simp [hk])
  clear hR
  generalize clsV cls = cv
  have hb1 := (Below.refl w.heap.size w).alloc (Nat.le_refl _) (.cells #[.pointer (some ⟨tp, 0, none⟩), .pointer (some ⟨sp, 0, none⟩), .int .i64 cv, .bool fn] 49)
  have p3 := hcell (hnew w (.cells #[.pointer (some ⟨tp, 0, none⟩), .pointer (some ⟨sp, 0, none⟩), .int .i64 cv, .bool fn] 49)) 3
  simp only [List.getElem?_toArray, List.getElem?_cons_zero, List.getElem?_cons_succ] at p3
  have HP1 := hide (h.keep hb1)
  have HN1 := hide (node_keep hn fun k hk => hb1.block k (Nat.lt_of_lt_of_le hk h.hM))
  have HB1 := hide hb1
  have hsz : w.heap.size < (w.alloc (.cells #[.pointer (some ⟨tp, 0, none⟩), .pointer (some ⟨sp, 0, none⟩), .int .i64 cv, .bool fn] 49)).heap.size := by simp
  have e0 := hcellB hb1 hv.c0
  have e1 := hcellB hb1 hv.c1
  have e4 := hcellB hb1 hv.c4
  rw [hk] at e0
  clear h hn hv hb1
  cases fn with
  | false =>
    go_enter Tryz.func44, Tryz.ntmps44
    go_wp2_with fail
    refine (wrong_any 6 e4).mono ?_
    rintro e W9 ⟨hb9, pp, rfl⟩
    have HB9 := hide ((unhide HB1).trans (hb9.mono (unhide HB1).size))
    clear hb9
    go_wp2_with fail
    go_ret
    exact ⟨unhide HB9, Or.inr ⟨(unhide HR).symm, _, _, rfl⟩⟩
  | true =>
    go_enter Tryz.func44, Tryz.ntmps44
    go_wp2_with fail
    go_ret
    exact ⟨unhide HB1, Or.inl ⟨(unhide HR).symm, rfl⟩⟩

set_option maxRecDepth 100000 in
set_option maxHeartbeats 8000000 in
theorem itself_other {M : Nat} {w : World} {tp sp sb N : Nat} {T : Tab} {vc vf : Value} {env : List (List ByteArray)} (h : PlA M w tp sp sb N T vc vf env) (cls : Option Nat) (fn : Bool) {b : Nat} {t : Tree} (hn : NodeAt (fun k => k < M) w (.pointer (some ⟨b, 0, none⟩)) t) (h8 : t.kind ≠ 8) (h24 : t.kind ≠ 24) (h45 : t.kind ≠ 45) (h23 : t.kind ≠ 23) (h26 : t.kind ≠ 26) (h25 : t.kind ≠ 25) (h12 : t.kind ≠ 12) {R : Bool} (hR : itselfP T cls fn env t = R) :
    Calls Tryz.prog 44 #[plV tp sp cls fn, .pointer (some ⟨b, 0, none⟩)] w fun e w' => ItPost w R e w' := by
  obtain ⟨ks, hv⟩ := node_view hn
  unfold plV
  have HR := hide (show true = R by rw [← hR]; unfold itselfP; simp [h8, h24, h45, h23, h26, h25, h12])
  clear hR
  generalize clsV cls = cv
  have hb1 := (Below.refl w.heap.size w).alloc (Nat.le_refl _) (.cells #[.pointer (some ⟨tp, 0, none⟩), .pointer (some ⟨sp, 0, none⟩), .int .i64 cv, .bool fn] 49)
  have p3 := hcell (hnew w (.cells #[.pointer (some ⟨tp, 0, none⟩), .pointer (some ⟨sp, 0, none⟩), .int .i64 cv, .bool fn] 49)) 3
  simp only [List.getElem?_toArray, List.getElem?_cons_zero, List.getElem?_cons_succ] at p3
  have HP1 := hide (h.keep hb1)
  have HN1 := hide (node_keep hn fun k hk => hb1.block k (Nat.lt_of_lt_of_le hk h.hM))
  have HB1 := hide hb1
  have hsz : w.heap.size < (w.alloc (.cells #[.pointer (some ⟨tp, 0, none⟩), .pointer (some ⟨sp, 0, none⟩), .int .i64 cv, .bool fn] 49)).heap.size := by simp
  have e0 := hcellB hb1 hv.c0
  have e1 := hcellB hb1 hv.c1
  have e4 := hcellB hb1 hv.c4
  have d8 : ((t.kind : Int) == 8) = false := by simpa using fun q : (t.kind : Int) = 8 => h8 (by omega)
  have f8 : ¬ ((t.kind : Int) = 8) := fun q => h8 (by omega)
  have d24 : ((t.kind : Int) == 24) = false := by simpa using fun q : (t.kind : Int) = 24 => h24 (by omega)
  have f24 : ¬ ((t.kind : Int) = 24) := fun q => h24 (by omega)
  have d45 : ((t.kind : Int) == 45) = false := by simpa using fun q : (t.kind : Int) = 45 => h45 (by omega)
  have f45 : ¬ ((t.kind : Int) = 45) := fun q => h45 (by omega)
  have d23 : ((t.kind : Int) == 23) = false := by simpa using fun q : (t.kind : Int) = 23 => h23 (by omega)
  have f23 : ¬ ((t.kind : Int) = 23) := fun q => h23 (by omega)
  have d26 : ((t.kind : Int) == 26) = false := by simpa using fun q : (t.kind : Int) = 26 => h26 (by omega)
  have f26 : ¬ ((t.kind : Int) = 26) := fun q => h26 (by omega)
  have d25 : ((t.kind : Int) == 25) = false := by simpa using fun q : (t.kind : Int) = 25 => h25 (by omega)
  have f25 : ¬ ((t.kind : Int) = 25) := fun q => h25 (by omega)
  have d12 : ((t.kind : Int) == 12) = false := by simpa using fun q : (t.kind : Int) = 12 => h12 (by omega)
  have f12 : ¬ ((t.kind : Int) = 12) := fun q => h12 (by omega)
  clear h hn hv hb1
  go_enter Tryz.func44, Tryz.ntmps44
  go_wp2_with fail
  go_ret
  exact ⟨unhide HB1, Or.inl ⟨(unhide HR).symm, rfl⟩⟩

set_option maxRecDepth 100000 in
set_option maxHeartbeats 8000000 in
theorem itself_super {M : Nat} {w : World} {tp sp sb N : Nat} {T : Tab} {vc vf : Value} {env : List (List ByteArray)} (h : PlA M w tp sp sb N T vc vf env) (cls : Option Nat) (fn : Bool) {b : Nat} {t : Tree} (hn : NodeAt (fun k => k < M) w (.pointer (some ⟨b, 0, none⟩)) t) (hcls : ClsOk T.cs cls) (hk : t.kind = 26) {R : Bool} (hR : itselfP T cls fn env t = R) :
    Calls Tryz.prog 44 #[plV tp sp cls fn, .pointer (some ⟨b, 0, none⟩)] w fun e w' => ItPost w R e w' := by
  obtain ⟨ks, hv⟩ := node_view hn
  unfold plV
  have HR := hide (show superOk T cls t = R by rw [← hR]; unfold itselfP superOk; simp [hk]; rfl)
  have HC := hide hcls
  clear hR hcls
  have hb1 := (Below.refl w.heap.size w).alloc (Nat.le_refl _) (.cells #[.pointer (some ⟨tp, 0, none⟩), .pointer (some ⟨sp, 0, none⟩), .int .i64 (clsV cls), .bool fn] 49)
  have p0 := hcell (hnew w (.cells #[.pointer (some ⟨tp, 0, none⟩), .pointer (some ⟨sp, 0, none⟩), .int .i64 (clsV cls), .bool fn] 49)) 0
  simp only [List.getElem?_toArray, List.getElem?_cons_zero, List.getElem?_cons_succ] at p0
  have HP1 := hide (h.keep hb1)
  have HN1 := hide (node_keep hn fun k hk => hb1.block k (Nat.lt_of_lt_of_le hk h.hM))
  have HB1 := hide hb1
  have hsz : w.heap.size < (w.alloc (.cells #[.pointer (some ⟨tp, 0, none⟩), .pointer (some ⟨sp, 0, none⟩), .int .i64 (clsV cls), .bool fn] 49)).heap.size := by simp
  have e0 := hcellB hb1 hv.c0
  have e1 := hcellB hb1 hv.c1
  have e4 := hcellB hb1 hv.c4
  rw [hk] at e0
  clear hv
  clear h hn hb1
  go_enter Tryz.func44, Tryz.ntmps44
  go_wp2_with fail
  refine (show Calls Tryz.prog 72 #[.agg #[.pointer (some ⟨tp, 0, none⟩), .pointer (some ⟨sp, 0, none⟩), .int .i64 (clsV cls), .bool fn], .pointer (some ⟨b, 0, none⟩)] _ _ from super_any (unhide HP1) cls (unhide HC) fn (unhide HN1) (unhide HR)).mono ?_
  rintro e W2 ⟨hb2, hr⟩
  have HB2 := hide ((unhide HB1).trans (hb2.mono (unhide HB1).size))
  clear hb2
  rcases hr with ⟨rfl, rfl⟩ | ⟨rfl, tt, pp, rfl⟩
  · go_wp2_with fail
    go_ret
    exact ⟨unhide HB2, Or.inl ⟨rfl, rfl⟩⟩
  · go_wp2_with fail
    go_ret
    exact ⟨unhide HB2, Or.inr ⟨rfl, _, _, rfl⟩⟩

set_option maxRecDepth 100000 in
set_option maxHeartbeats 8000000 in
theorem itself_new {M : Nat} {w : World} {tp sp sb N : Nat} {T : Tab} {vc vf : Value} {env : List (List ByteArray)} (h : PlA M w tp sp sb N T vc vf env) (cls : Option Nat) (fn : Bool) {b : Nat} {t : Tree} (hn : NodeAt (fun k => k < M) w (.pointer (some ⟨b, 0, none⟩)) t) (hwf : ∀ c ∈ T.cs, Wf c) (hk : t.kind = 25) {R : Bool} (hR : itselfP T cls fn env t = R) :
    Calls Tryz.prog 44 #[plV tp sp cls fn, .pointer (some ⟨b, 0, none⟩)] w fun e w' => ItPost w R e w' := by
  obtain ⟨ks, hv⟩ := node_view hn
  unfold plV
  have HR := hide (show madeOk T t = R by rw [← hR]; unfold itselfP madeOk; simp [hk]; rfl)
  have HC := hide hwf
  clear hR hwf
  have hb1 := (Below.refl w.heap.size w).alloc (Nat.le_refl _) (.cells #[.pointer (some ⟨tp, 0, none⟩), .pointer (some ⟨sp, 0, none⟩), .int .i64 (clsV cls), .bool fn] 49)
  have p0 := hcell (hnew w (.cells #[.pointer (some ⟨tp, 0, none⟩), .pointer (some ⟨sp, 0, none⟩), .int .i64 (clsV cls), .bool fn] 49)) 0
  simp only [List.getElem?_toArray, List.getElem?_cons_zero, List.getElem?_cons_succ] at p0
  have HP1 := hide (h.keep hb1)
  have HN1 := hide (node_keep hn fun k hk => hb1.block k (Nat.lt_of_lt_of_le hk h.hM))
  have HB1 := hide hb1
  have hsz : w.heap.size < (w.alloc (.cells #[.pointer (some ⟨tp, 0, none⟩), .pointer (some ⟨sp, 0, none⟩), .int .i64 (clsV cls), .bool fn] 49)).heap.size := by simp
  have e0 := hcellB hb1 hv.c0
  have e1 := hcellB hb1 hv.c1
  have e4 := hcellB hb1 hv.c4
  rw [hk] at e0
  clear hv
  clear h hn hb1
  go_enter Tryz.func44, Tryz.ntmps44
  go_wp2_with fail
  refine (show Calls Tryz.prog 73 #[.agg #[.pointer (some ⟨tp, 0, none⟩), .pointer (some ⟨sp, 0, none⟩), .int .i64 (clsV cls), .bool fn], .pointer (some ⟨b, 0, none⟩)] _ _ from made_any (unhide HP1) cls fn (unhide HN1) (unhide HC) (unhide HR)).mono ?_
  rintro e W2 ⟨hb2, hr⟩
  have HB2 := hide ((unhide HB1).trans (hb2.mono (unhide HB1).size))
  clear hb2
  rcases hr with ⟨rfl, rfl⟩ | ⟨rfl, tt, pp, rfl⟩
  · go_wp2_with fail
    go_ret
    exact ⟨unhide HB2, Or.inl ⟨rfl, rfl⟩⟩
  · go_wp2_with fail
    go_ret
    exact ⟨unhide HB2, Or.inr ⟨rfl, _, _, rfl⟩⟩
end Go.Proofs.YtjcoobkpmpjpbaaGreatDoor
