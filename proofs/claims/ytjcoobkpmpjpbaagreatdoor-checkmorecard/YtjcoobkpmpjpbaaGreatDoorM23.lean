/-
  A function's body is gone through.
  Heads are gone through as they stand in the program.
  What going through heads says.
  Names that are told one behind the other; what the table asks of fields and methods.
  Nodes of a program, one behind the other, in a row of one's own.
-/
import Derived.Test.YtjcoobkpmpjpbaaGreatDoorM22
namespace Go.Proofs.YtjcoobkpmpjpbaaGreatDoor
open Go.RowKit Go.Maps
set_option linter.unusedSimpArgs false

/-- What comes of a body. -/
def BdPost (w : World) (b : Nat) (R : Bool) (e : Ending) (w' : World) : Prop := w.grownBy w' (some b) ∧ ((R = true ∧ e = .returned .nilIface) ∨ (R = false ∧ ∃ tt pp, e = .returned (.iface tt pp)))
theorem cell_grown {w w' : World} {b : Nat} {o : List ByteArray} (hn : NamesAt w b o) (hg : w.grownBy w' (some b)) {a : Addr} {v : Value} (h : w.cell? a = some v) : w'.cell? a = some v := by
  have hl := cell_ltK h
  have hne : a.block ≠ b := fun e => by
    obtain ⟨D, ⟨es, clock, h1, _⟩, _⟩ := hn
    unfold World.cell? at h
    rw [e, h1] at h
    cases h
  exact (World.cell?_of_block (hg.block a.block hl (fun e => hne (Option.some.inj e)))).trans h
theorem block_grown {w w' : World} {b : Nat} {o : List ByteArray} (hn : NamesAt w b o) (hg : w.grownBy w' (some b)) {k : Nat} {cs : Array Value} {t : TypeId} {fr : Nat × Nat} (h : w.heap[k]? = some (.cells cs t fr)) : w'.heap[k]? = some (.cells cs t fr) :=
  (hg.block k (Array.getElem?_eq_some_iff.1 h).1 (fun e => by
    obtain ⟨D, ⟨es, clock, h1, _⟩, _⟩ := hn
    rw [Option.some.inj e, h1] at h
    cases h)).trans h
theorem scope_cons {w : World} {N sp b : Nat} {env : List (List ByteArray)} (h : ScopeAt w N sp b env) : ∃ o r, env = o :: r ∧ w.cell? ⟨sp, 0, none⟩ = some (.map (some b)) := by
  obtain ⟨f, o, r, e, h1, _⟩ := h
  exact ⟨o, r, e, hcell h1 0⟩
theorem many_pos (t : Tree) : 1 ≤ t.many := by
  rw [many_eq]
  omega
theorem PlA.drew {M : Nat} {w : World} {tp sp b N : Nat} {T : Tab} {vc vf : Value} {env : List (List ByteArray)} (h : PlA M w tp sp b N T vc vf env) : PlA M w.drew tp sp b N T vc vf env := ⟨h.tab.keep fun _ _ => rfl, h.scope.keep (fun _ _ => rfl) (Nat.le_refl _), h.hM, h.hb⟩

set_option maxRecDepth 100000 in
set_option maxHeartbeats 8000000 in
theorem body_any {M : Nat} {tp : Nat} {T : Tab} {vc vf : Value} {f : Nat} {cls : Option Nat} {fn : Bool} (HN : Hid (NodeOk M tp T vc vf f cls fn)) {w : World} {sp b N : Nat} {env : List (List ByteArray)} (h : PlA M w tp sp b N T vc vf env) {bn : Nat} {t p q : Tree} (hnd : NodeAt (fun k => k < M) w (.pointer (some ⟨bn, 0, none⟩)) t) (hk : t.kids = [p, q]) (hwp : ∀ k ∈ p.kids, Wf k) (hlow : ∀ k ∈ q.kids, Lowt f k ∧ Wf k) (hn : ownN env + manyL p.kids + manyL q.kids ≤ 1000000) :
    Calls Tryz.prog 45 #[plV tp sp cls fn, .pointer (some ⟨bn, 0, none⟩)] w fun e w' => BdPost w b (bodyOk (nodeP T f cls fn) env t) e w' := by
  obtain ⟨ks, hv⟩ := node_view hnd
  have n5 := hv.c5
  obtain ⟨kg, kcap, rfl, hkm, hkat⟩ := hv.kids
  obtain ⟨ka, b1, rfl, hka, k0, hp⟩ := hkat 0 p (by rw [hk]; rfl)
  obtain ⟨ka', b2, e2, _, k1, hq⟩ := hkat 1 q (by rw [hk]; rfl)
  cases e2
  obtain ⟨pk, hpv⟩ := node_view hp
  obtain ⟨qk, hqv⟩ := node_view hq
  have HPL := hide hpv.kids
  have HQL := hide hqv.kids
  have p5 := hpv.c5
  have q5 := hqv.c5
  obtain ⟨pg, pcap, rfl, hmax, _⟩ := hpv.kids
  obtain ⟨qg, qcap, rfl, _, _⟩ := hqv.kids
  obtain ⟨L, hL⟩ : ∃ L, p.kids.length = L := ⟨_, rfl⟩
  have HLEN := hide hL
  rw [hL] at p5 hmax
  have hk2 : t.kids.length = 2 := by rw [hk]; rfl
  rw [hk2] at n5
  unfold maxLen at hmax
  have HR : Hid (bodyOk (nodeP T f cls fn) env t = match addAllP env p.kids with
    | none => false
    | some env' => (allP (nodeP T f cls fn) env' q.kids).isSome) := by
    unfold bodyOk
    rw [hk]
    rfl
  have HWP := hide hwp
  have HLOW := hide hlow
  have HBD := hide hn
  have H := hide h
  have HLT := hide h.lt
  have hb1 := (Below.refl w.heap.size w).alloc (Nat.le_refl _) (.cells #[.pointer (some ⟨tp, 0, none⟩), .pointer (some ⟨sp, 0, none⟩), .int .i64 (clsV cls), .bool fn] 49)
  have x5 := hcellB hb1 n5
  have y0 := hcellB hb1 k0
  have y1 := hcellB hb1 k1
  have w5 := hcellB hb1 p5
  have HB1 := hide hb1
  have HX := hide (hnew w (.cells #[.pointer (some ⟨tp, 0, none⟩), .pointer (some ⟨sp, 0, none⟩), .int .i64 (clsV cls), .bool fn] 49))
  have HQ5 := hide q5
  unfold plV
  generalize bodyOk (nodeP T f cls fn) env t = R at HR ⊢
  generalize hcv : clsV cls = cv at HX HB1 x5 y0 y1 w5 hb1 ⊢
  have HCV2 := hide hcv
  clear hcv h hwp hlow hn hL hb1 hk hk2 hkm hkat hp hq hpv hqv hv hnd n5 k0 k1 p5 q5
  have entA : ∀ (s : ByteArray) (w : World), Sem.run Tryz.prog (callFunc 23 #[.map (some b), .string s]) w = .ok (.enter 23 #[.map (some b), .string s]) w := fun _ _ => by kernel_rfl
  have entL : ∀ (w : World), Sem.run Tryz.prog (callFunc 15 #[.agg #[.pointer (some ⟨tp, 0, none⟩), .pointer (some ⟨sp, 0, none⟩), .int .i64 cv, .bool fn], .slice qg q.kids.length qcap]) w = .ok (.enter 15 #[.agg #[.pointer (some ⟨tp, 0, none⟩), .pointer (some ⟨sp, 0, none⟩), .int .i64 cv, .bool fn], .slice qg q.kids.length qcap]) w := fun _ => by kernel_rfl
  go_enter Tryz.func45, Tryz.ntmps45
  go_wp2_with fail
  generalize w.alloc (.cells #[.pointer (some ⟨tp, 0, none⟩), .pointer (some ⟨sp, 0, none⟩), .int .i64 cv, .bool fn] 49) = W at *
  refine wp_region_held_drew (S := fun w' => w'.cell? ⟨bn, 5, none⟩ = some (.slice (some ⟨ka, 0, none⟩) 2 kcap) ∧ w'.cell? ⟨ka, 0, none⟩ = some (.pointer (some ⟨b1, 0, none⟩)) ∧ w'.cell? ⟨ka, 1, none⟩ = some (.pointer (some ⟨b2, 0, none⟩))) (by kernel_rfl) ⟨x5, y0, y1⟩ (fun hHeld => ?_)
  refine wpAnyH_take (i := 0) (oi := { dst := some 9, op := _, type := _, pos := _, after := _, guard := _ }) (v := ?_) rfl (by kernel_rfl) (by kernel_rfl) (by kernel_rfl) (fun _ _ _ h => h) (Or.inl ⟨by rfl, ?_⟩) (by assumption) ?_
  case refine_2 =>
    intro w hSw
    try dsimp only at hSw
    go_simp
    try with_reducible rfl
  simp only [Act.put, List.setIfInBounds_toArray, List.set_cons_zero, List.set_cons_succ]
  refine wpAnyH_take (i := 1) (oi := { dst := some 10, op := _, type := _, pos := _, after := _, guard := _ }) (v := ?_) rfl (by kernel_rfl) (by kernel_rfl) (by kernel_rfl) (fun _ _ _ h => h) (Or.inl ⟨by rfl, ?_⟩) (by assumption) ?_
  case refine_2 =>
    intro w hSw
    try dsimp only at hSw
    go_simp
    try with_reducible rfl
  simp only [Act.put, List.setIfInBounds_toArray, List.set_cons_zero, List.set_cons_succ]
  refine wpAnyH_take (i := 2) (oi := { dst := some 11, op := _, type := _, pos := _, after := _, guard := _ }) (v := ?_) rfl (by kernel_rfl) (by kernel_rfl) (by kernel_rfl) (fun _ _ _ h => h) (Or.inl ⟨by rfl, ?_⟩) (by assumption) ?_
  case refine_2 =>
    intro w hSw
    try dsimp only at hSw
    go_simp
    try with_reducible rfl
  simp only [Act.put, List.setIfInBounds_toArray, List.set_cons_zero, List.set_cons_succ]
  refine wpAnyH_take (i := 3) (oi := { dst := some 12, op := _, type := _, pos := _, after := _, guard := _ }) (v := ?_) rfl (by kernel_rfl) (by kernel_rfl) (by kernel_rfl) (fun _ _ _ h => h) (Or.inl ⟨by rfl, ?_⟩) (by assumption) ?_
  case refine_2 =>
    intro w hSw
    try dsimp only at hSw
    go_simp
    try with_reducible rfl
  simp only [Act.put, List.setIfInBounds_toArray, List.set_cons_zero, List.set_cons_succ]
  refine wpAnyH_take (i := 4) (oi := { dst := some 13, op := _, type := _, pos := _, after := _, guard := _ }) (v := ?_) rfl (by kernel_rfl) (by kernel_rfl) (by kernel_rfl) (fun _ _ _ h => h) (Or.inl ⟨by rfl, ?_⟩) (by assumption) ?_
  case refine_2 =>
    intro w hSw
    try dsimp only at hSw
    go_simp
    try with_reducible rfl
  simp only [Act.put, List.setIfInBounds_toArray, List.set_cons_zero, List.set_cons_succ]
  refine wpAnyH_take (i := 5) (oi := { dst := some 14, op := _, type := _, pos := _, after := _, guard := _ }) (v := ?_) rfl (by kernel_rfl) (by kernel_rfl) (by kernel_rfl) (fun _ _ _ h => h) (Or.inl ⟨by rfl, ?_⟩) (by assumption) ?_
  case refine_2 =>
    intro w hSw
    try dsimp only at hSw
    go_simp
    try with_reducible rfl
  simp only [Act.put, List.setIfInBounds_toArray, List.set_cons_zero, List.set_cons_succ]
  refine wpAnyH_take (i := 6) (oi := { dst := some 15, op := _, type := _, pos := _, after := _, guard := _ }) (v := ?_) rfl (by kernel_rfl) (by kernel_rfl) (by kernel_rfl) (fun _ _ _ h => h) (Or.inl ⟨by rfl, ?_⟩) (by assumption) ?_
  case refine_2 =>
    intro w hSw
    try dsimp only at hSw
    go_simp
    try with_reducible rfl
  simp only [Act.put, List.setIfInBounds_toArray, List.set_cons_zero, List.set_cons_succ]
  refine wpAnyH_take (i := 7) (oi := { dst := some 16, op := _, type := _, pos := _, after := _, guard := _ }) (v := ?_) rfl (by kernel_rfl) (by kernel_rfl) (by kernel_rfl) (fun _ _ _ h => h) (Or.inl ⟨by rfl, ?_⟩) (by assumption) ?_
  case refine_2 =>
    intro w hSw
    try dsimp only at hSw
    go_simp
    try with_reducible rfl
  simp only [Act.put, List.setIfInBounds_toArray, List.set_cons_zero, List.set_cons_succ]
  refine wpAnyH_take (i := 8) (oi := { dst := some 17, op := _, type := _, pos := _, after := _, guard := _ }) (v := ?_) rfl (by kernel_rfl) (by kernel_rfl) (by kernel_rfl) (fun _ _ _ h => h) (Or.inl ⟨by rfl, ?_⟩) (by assumption) ?_
  case refine_2 =>
    intro w hSw
    try dsimp only at hSw
    go_simp
    try with_reducible rfl
  simp only [Act.put, List.setIfInBounds_toArray, List.set_cons_zero, List.set_cons_succ]
  refine wpAnyH_take (i := 9) (oi := { dst := some 18, op := _, type := _, pos := _, after := _, guard := _ }) (v := ?_) rfl (by kernel_rfl) (by kernel_rfl) (by kernel_rfl) (fun _ _ _ h => h) (Or.inl ⟨by rfl, ?_⟩) (by assumption) ?_
  case refine_2 =>
    intro w hSw
    try dsimp only at hSw
    go_simp
    try with_reducible rfl
  simp only [Act.put, List.setIfInBounds_toArray, List.set_cons_zero, List.set_cons_succ]
  refine wpAnyH_take (i := 10) (oi := { dst := some 19, op := _, type := _, pos := _, after := _, guard := _ }) (v := ?_) rfl (by kernel_rfl) (by kernel_rfl) (by kernel_rfl) (fun _ _ _ h => h) (Or.inl ⟨by rfl, ?_⟩) (by assumption) ?_
  case refine_2 =>
    intro w hSw
    try dsimp only at hSw
    go_simp
    try with_reducible rfl
  simp only [Act.put, List.setIfInBounds_toArray, List.set_cons_zero, List.set_cons_succ]
  refine wpAnyH_take (i := 11) (oi := { dst := some 20, op := _, type := _, pos := _, after := _, guard := _ }) (v := ?_) rfl (by kernel_rfl) (by kernel_rfl) (by kernel_rfl) (fun _ _ _ h => h) (Or.inl ⟨by rfl, ?_⟩) (by assumption) ?_
  case refine_2 =>
    intro w hSw
    try dsimp only at hSw
    go_simp
    try with_reducible rfl
  simp only [Act.put, List.setIfInBounds_toArray, List.set_cons_zero, List.set_cons_succ]
  refine wpAnyH_take (i := 12) (oi := { dst := some 5, op := _, type := _, pos := _, after := _, guard := _ }) (v := ?_) rfl (by kernel_rfl) (by kernel_rfl) (by kernel_rfl) (fun _ _ _ h => h) (Or.inl ⟨by rfl, ?_⟩) (by assumption) ?_
  case refine_2 =>
    intro w hSw
    try dsimp only at hSw
    go_simp
    try with_reducible rfl
  simp only [Act.put, List.setIfInBounds_toArray, List.set_cons_zero, List.set_cons_succ]
  refine wpAnyH_take (i := 13) (oi := { dst := some 6, op := _, type := _, pos := _, after := _, guard := _ }) (v := ?_) rfl (by kernel_rfl) (by kernel_rfl) (by kernel_rfl) (fun _ _ _ h => h) (Or.inl ⟨by rfl, ?_⟩) (by assumption) ?_
  case refine_2 =>
    intro w hSw
    try dsimp only at hSw
    go_simp
    try with_reducible rfl
  simp only [Act.put, List.setIfInBounds_toArray, List.set_cons_zero, List.set_cons_succ]
  refine wpAnyH_done (by kernel_rfl) ?_ _
  clear hHeld x5 y0 y1
  have w5' : W.drew.cell? ⟨b1, 5, none⟩ = some (.slice pg L pcap) := w5
  go_wp2_with fail
  go_loopg [26] L (fun gg iv wr => ∃ (i : Nat) (envi : List (List ByteArray)), i ≤ L ∧ gg = L - i ∧ iv = .int .i64 i ∧ Hid (w.grownBy wr (some b)) ∧ Hid (PlA M wr tp sp b N T vc vf envi) ∧ Hid (addAllP env p.kids = addAllP envi (p.kids.drop i)) ∧ Hid (ownN envi + manyL (p.kids.drop i) ≤ ownN env + manyL p.kids) ∧ Hid (wr.heap[w.heap.size]? = some (.cells #[.pointer (some ⟨tp, 0, none⟩), .pointer (some ⟨sp, 0, none⟩), .int .i64 cv, .bool fn] 49 (0, 0))))
  case atStart => exact ⟨0, env, Nat.zero_le _, rfl, rfl, grown_of_below (Below.drew (unhide HB1)), ((unhide H).keep (unhide HB1)).drew, rfl, Nat.le_refl _, unhide HX⟩
  case round =>
    obtain ⟨i, envi, hi, rfl, rfl, HG, HP, HA, HS, HX⟩ := hrel
    have HNM := hide (unhide HP).scope.own
    by_cases hlt2 : i < L
    · have hlt3 : (i : Int) < (L : Int) := by omega
      obtain ⟨n, ht⟩ : ∃ n, p.kids[i]? = some n := ⟨_, List.getElem?_eq_getElem (by have := unhide HLEN; omega)⟩
      obtain ⟨g', cap', e1, _, hat⟩ := list_grown (unhide HPL) (unhide HG) (unhide H).hM (unhide H).hb
      cases e1
      obtain ⟨a, bk, rfl, ha, hc, hnk⟩ := hat i n ht
      obtain ⟨kk, hkv⟩ := node_view hnk
      have e1 := hkv.c1
      have e4 := hkv.c4
      obtain ⟨z0, z1, z2, z3⟩ := box_cells (unhide HX)
      obtain ⟨oo, rr, eo, s0⟩ := scope_cons (unhide HP).scope
      have HEO := hide eo
      have HT := hide ht
      have hs3 := (unhide HWP n (List.mem_of_getElem? ht)).here.2.1
      have hbd : (envi.headD []).length ≤ 1000000 := by
        have := unhide HS
        have := unhide HBD
        unfold ownN at *
        omega
      clear hnk ht hat hkv eo
      go_wp2_with fail
      refine wp_region_held_drew (S := fun w' => w'.cell? ⟨w.heap.size, 1, none⟩ = some (.pointer (some ⟨sp, 0, none⟩)) ∧ w'.cell? ⟨sp, 0, none⟩ = some (.map (some b)) ∧ w'.cell? ⟨bk, 1, none⟩ = some (.string n.text)) (by kernel_rfl) ⟨z1, s0, e1⟩ (fun hHeld => ?_)
      refine wpAnyH_take (i := 0) (oi := { dst := some 30, op := _, type := _, pos := _, after := _, guard := _ }) (v := ?_) rfl (by kernel_rfl) (by kernel_rfl) (by kernel_rfl) (fun _ _ _ h => h) (Or.inl ⟨by rfl, ?_⟩) (by assumption) ?_
      case refine_2 =>
        intro w hSw
        try dsimp only at hSw
        go_simp
        try with_reducible rfl
      simp only [Act.put, List.setIfInBounds_toArray, List.set_cons_zero, List.set_cons_succ]
      refine wpAnyH_take (i := 1) (oi := { dst := some 31, op := _, type := _, pos := _, after := _, guard := _ }) (v := ?_) rfl (by kernel_rfl) (by kernel_rfl) (by kernel_rfl) (fun _ _ _ h => h) (Or.inl ⟨by rfl, ?_⟩) (by assumption) ?_
      case refine_2 =>
        intro w hSw
        try dsimp only at hSw
        go_simp
        try with_reducible rfl
      simp only [Act.put, List.setIfInBounds_toArray, List.set_cons_zero, List.set_cons_succ]
      refine wpAnyH_take (i := 2) (oi := { dst := some 32, op := _, type := _, pos := _, after := _, guard := _ }) (v := ?_) rfl (by kernel_rfl) (by kernel_rfl) (by kernel_rfl) (fun _ _ _ h => h) (Or.inl ⟨by rfl, ?_⟩) (by assumption) ?_
      case refine_2 =>
        intro w hSw
        try dsimp only at hSw
        go_simp
        try with_reducible rfl
      simp only [Act.put, List.setIfInBounds_toArray, List.set_cons_zero, List.set_cons_succ]
      refine wpAnyH_take (i := 3) (oi := { dst := some 33, op := _, type := _, pos := _, after := _, guard := _ }) (v := ?_) rfl (by kernel_rfl) (by kernel_rfl) (by kernel_rfl) (fun _ _ _ h => h) (Or.inl ⟨by rfl, ?_⟩) (by assumption) ?_
      case refine_2 =>
        intro w hSw
        try dsimp only at hSw
        go_simp
        try with_reducible rfl
      simp only [Act.put, List.setIfInBounds_toArray, List.set_cons_zero, List.set_cons_succ]
      refine wpAnyH_take (i := 4) (oi := { dst := some 34, op := _, type := _, pos := _, after := _, guard := _ }) (v := ?_) rfl (by kernel_rfl) (by kernel_rfl) (by kernel_rfl) (fun _ _ _ h => h) (Or.inl ⟨by rfl, ?_⟩) (by assumption) ?_
      case refine_2 =>
        intro w hSw
        try dsimp only at hSw
        go_simp
        try with_reducible rfl
      simp only [Act.put, List.setIfInBounds_toArray, List.set_cons_zero, List.set_cons_succ]
      refine wpAnyH_take (i := 5) (oi := { dst := some 35, op := _, type := _, pos := _, after := _, guard := _ }) (v := ?_) rfl (by kernel_rfl) (by kernel_rfl) (by kernel_rfl) (fun _ _ _ h => h) (Or.inl ⟨by rfl, ?_⟩) (by assumption) ?_
      case refine_2 =>
        intro w hSw
        try dsimp only at hSw
        go_simp
        try with_reducible rfl
      simp only [Act.put, List.setIfInBounds_toArray, List.set_cons_zero, List.set_cons_succ]
      refine wpAnyH_take (i := 6) (oi := { dst := some 36, op := _, type := _, pos := _, after := _, guard := _ }) (v := ?_) rfl (by kernel_rfl) (by kernel_rfl) (by kernel_rfl) (fun _ _ _ h => h) (Or.inl ⟨by rfl, ?_⟩) (by assumption) ?_
      case refine_2 =>
        intro w hSw
        try dsimp only at hSw
        go_simp
        try with_reducible rfl
      simp only [Act.put, List.setIfInBounds_toArray, List.set_cons_zero, List.set_cons_succ]
      refine wpAnyH_take (i := 7) (oi := { dst := some 37, op := _, type := _, pos := _, after := _, guard := _ }) (v := ?_) rfl (by kernel_rfl) (by kernel_rfl) (by kernel_rfl) (fun _ _ _ h => h) (Or.inl ⟨by rfl, ?_⟩) (by assumption) ?_
      case refine_2 =>
        intro w hSw
        try dsimp only at hSw
        go_simp
        try with_reducible rfl
      simp only [Act.put, List.setIfInBounds_toArray, List.set_cons_zero, List.set_cons_succ]
      refine wpAnyH_take (i := 8) (oi := { dst := some 38, op := _, type := _, pos := _, after := _, guard := _ }) (v := ?_) rfl (by kernel_rfl) (by kernel_rfl) (by kernel_rfl) (fun _ _ _ h => h) (Or.inl ⟨by rfl, ?_⟩) (by assumption) ?_
      case refine_2 =>
        intro w hSw
        try dsimp only at hSw
        go_simp
        try with_reducible rfl
      simp only [Act.put, List.setIfInBounds_toArray, List.set_cons_zero, List.set_cons_succ]
      refine wpAnyH_ready (rs := [9]) (by kernel_rfl) (by simp) ?_
      refine AllReadyH.cons (o := { dst := some 39, op := _, type := _, pos := _, after := _, guard := _ }) rfl (fun K hK => ?_) AllReadyH.nil
      refine step_enterG (by kernel_rfl) (by simp [Act.eval, entA, go_sem]) ((add_name (w := wr.drew) ((unhide HNM).move rfl) hs3 hbd).mono ?_)
      rintro e W3 ⟨rfl, hnm3, hg3⟩
      have hg3' : wr.grownBy W3 (some b) := ⟨hg3.os, hg3.tape, hg3.output, hg3.size, hg3.block⟩
      have y1 := cell_grown (unhide HNM) hg3' z1
      have y2 := cell_grown (unhide HNM) hg3' s0
      have y3 := cell_grown (unhide HNM) hg3' e1
      have y4 := cell_grown (unhide HNM) hg3' e4
      have HX3 := hide (block_grown (unhide HNM) hg3' (unhide HX))
      have HG3 := hide ((unhide HG).trans hg3')
      have HS3 := hide ((unhide HP).scope.put hnm3 hg3')
      have HP3 := hide ((unhide HP).grown hg3' (unhide HS3))
      have hdc := drop_cons (unhide HT)
      have hmd := manyL_drop (unhide HT)
      have hmp := many_pos n
      clear hg3 hg3' hnm3 z0 z1 z2 z3 s0 e1 e4
      refine hK.out _ _ ⟨y1, y2, y3⟩ (fun hHeld9 => ?_)
      clear hK K
      simp only [Act.put, List.setIfInBounds_toArray, List.set_cons_zero, List.set_cons_succ]
      cases hh : hasName (envi.headD []) n.text with
      | true =>
        rw [hh] at HP3
        have HA2 := hide (show addAllP env p.kids = none by rw [unhide HA, hdc, addAllP, if_pos hh])
        clear hh hdc hmd hmp
        refine wpAnyH_take (i := 10) (oi := { dst := some 40, op := _, type := _, pos := _, after := _, guard := _ }) (v := ?_) rfl (by kernel_rfl) (by kernel_rfl) (by kernel_rfl) (fun _ _ _ h => h) (Or.inl ⟨by rfl, ?_⟩) (by assumption) ?_
        case refine_2 =>
          intro w hSw
          try dsimp only at hSw
          go_simp
          try with_reducible rfl
        simp only [Act.put, List.setIfInBounds_toArray, List.set_cons_zero, List.set_cons_succ]
        refine wpAnyH_done (by kernel_rfl) ?_ _
        clear hHeld hHeld9
        go_wp2_with fail
        refine (wrong_any 9 y4).mono ?_
        rintro e W4 ⟨hb4, pp, rfl⟩
        have HG4 := hide ((unhide HG3).trans (grown_of_below hb4))
        clear hb4
        go_wp2_with fail
        go_ret
        refine ⟨unhide HG4, Or.inr ⟨?_, _, _, rfl⟩⟩
        rw [unhide HR, unhide HA2]
      | false =>
        rw [hh] at HP3
        have he2 : addHead n.text envi = (n.text :: envi.headD []) :: envi.tail := by rw [unhide HEO]; rfl
        have HA2 := hide (show addAllP env p.kids = addAllP ((n.text :: envi.headD []) :: envi.tail) (p.kids.drop (i + 1)) by rw [unhide HA, hdc, addAllP, if_neg (by rw [hh]; decide), he2])
        have HS2 := hide (show ownN ((n.text :: envi.headD []) :: envi.tail) + manyL (p.kids.drop (i + 1)) ≤ ownN env + manyL p.kids by
          have := unhide HS
          unfold ownN at *
          simp only [List.headD_cons, List.length_cons]
          omega)
        have HP4 := hide (show PlA M W3 tp sp b N T vc vf ((n.text :: envi.headD []) :: envi.tail) from unhide HP3)
        clear hh hdc hmd hmp he2 HP3
        refine wpAnyH_take (i := 10) (oi := { dst := some 40, op := _, type := _, pos := _, after := _, guard := _ }) (v := ?_) rfl (by kernel_rfl) (by kernel_rfl) (by kernel_rfl) (fun _ _ _ h => h) (Or.inl ⟨by rfl, ?_⟩) (by assumption) ?_
        case refine_2 =>
          intro w hSw
          try dsimp only at hSw
          go_simp
          try with_reducible rfl
        simp only [Act.put, List.setIfInBounds_toArray, List.set_cons_zero, List.set_cons_succ]
        refine wpAnyH_done (by kernel_rfl) ?_ _
        clear hHeld hHeld9
        go_wp2_with fail
        go_roundg (L - (i + 1))
        case measure => omega
        case rel => exact ⟨i + 1, (n.text :: envi.headD []) :: envi.tail, by omega, rfl, by go_num, HG3, HP4, HA2, HS2, HX3⟩
    · obtain rfl : i = L := by omega
      have hlt3 : decide ((i : Int) < (i : Int)) = false := by simp
      have hd : p.kids.drop i = [] := List.drop_eq_nil_of_le (by have := unhide HLEN; omega)
      have HA2 := hide (show addAllP env p.kids = some envi by rw [unhide HA, hd]; rfl)
      have HS2 := hide (show ownN envi + manyL q.kids ≤ 1000000 by
        have := unhide HS
        have := unhide HBD
        omega)
      have hql := list_grown (unhide HQL) (unhide HG) (unhide H).hM (unhide H).hb
      have HQL2 := hide hql
      obtain ⟨z0, z1, z2, z3⟩ := box_cells (unhide HX)
      have q5 := cell_grown (unhide H).scope.own (unhide HG) (unhide HQ5)
      clear hd hql
      go_wp2_with fail
      refine wp_region_held_drew (S := fun w' => w'.cell? ⟨w.heap.size, 0, none⟩ = some (.pointer (some ⟨tp, 0, none⟩)) ∧ w'.cell? ⟨w.heap.size, 1, none⟩ = some (.pointer (some ⟨sp, 0, none⟩)) ∧ w'.cell? ⟨w.heap.size, 2, none⟩ = some (.int .i64 cv) ∧ w'.cell? ⟨w.heap.size, 3, none⟩ = some (.bool fn) ∧ w'.cell? ⟨b2, 5, none⟩ = some (.slice qg q.kids.length qcap)) (by kernel_rfl) ⟨z0, z1, z2, z3, q5⟩ (fun hHeld => ?_)
      refine wpAnyH_take (i := 0) (oi := { dst := some 44, op := _, type := _, pos := _, after := _, guard := _ }) (v := ?_) rfl (by kernel_rfl) (by kernel_rfl) (by kernel_rfl) (fun _ _ _ h => h) (Or.inl ⟨by rfl, ?_⟩) (by assumption) ?_
      case refine_2 =>
        intro w hSw
        try dsimp only at hSw
        go_simp
        try with_reducible rfl
      simp only [Act.put, List.setIfInBounds_toArray, List.set_cons_zero, List.set_cons_succ]
      refine wpAnyH_take (i := 1) (oi := { dst := some 45, op := _, type := _, pos := _, after := _, guard := _ }) (v := ?_) rfl (by kernel_rfl) (by kernel_rfl) (by kernel_rfl) (fun _ _ _ h => h) (Or.inl ⟨by rfl, ?_⟩) (by assumption) ?_
      case refine_2 =>
        intro w hSw
        try dsimp only at hSw
        go_simp
        try with_reducible rfl
      simp only [Act.put, List.setIfInBounds_toArray, List.set_cons_zero, List.set_cons_succ]
      refine wpAnyH_take (i := 2) (oi := { dst := some 46, op := _, type := _, pos := _, after := _, guard := _ }) (v := ?_) rfl (by kernel_rfl) (by kernel_rfl) (by kernel_rfl) (fun _ _ _ h => h) (Or.inl ⟨by rfl, ?_⟩) (by assumption) ?_
      case refine_2 =>
        intro w hSw
        try dsimp only at hSw
        go_simp
        try with_reducible rfl
      simp only [Act.put, List.setIfInBounds_toArray, List.set_cons_zero, List.set_cons_succ]
      refine wpAnyH_take (i := 3) (oi := { dst := some 47, op := _, type := _, pos := _, after := _, guard := _ }) (v := ?_) rfl (by kernel_rfl) (by kernel_rfl) (by kernel_rfl) (fun _ _ _ h => h) (Or.inl ⟨by rfl, ?_⟩) (by assumption) ?_
      case refine_2 =>
        intro w hSw
        try dsimp only at hSw
        go_simp
        try with_reducible rfl
      simp only [Act.put, List.setIfInBounds_toArray, List.set_cons_zero, List.set_cons_succ]
      refine wpAnyH_take (i := 4) (oi := { dst := some 48, op := _, type := _, pos := _, after := _, guard := _ }) (v := ?_) rfl (by kernel_rfl) (by kernel_rfl) (by kernel_rfl) (fun _ _ _ h => h) (Or.inl ⟨by rfl, ?_⟩) (by assumption) ?_
      case refine_2 =>
        intro w hSw
        try dsimp only at hSw
        go_simp
        try with_reducible rfl
      simp only [Act.put, List.setIfInBounds_toArray, List.set_cons_zero, List.set_cons_succ]
      have hc0 := all_any HN (w := wr.drew) (unhide HP).drew ((unhide HQL2).keep fun _ _ => rfl) (unhide HLOW) (unhide HS2)
      unfold plV at hc0
      rw [unhide HCV2] at hc0
      refine wpAnyH_ready (rs := [5]) (by kernel_rfl) (by simp) ?_
      refine AllReadyH.cons (o := { dst := some 49, op := _, type := _, pos := _, after := _, guard := _ }) rfl (fun K hK => ?_) AllReadyH.nil
      refine step_enterG (by kernel_rfl) (by simp [Act.eval, entL, go_sem]) (hc0.mono ?_)
      rintro e W3 ⟨hg3, env3, hs3, _, hor⟩
      have hg3' : wr.grownBy W3 (some b) := ⟨hg3.os, hg3.tape, hg3.output, hg3.size, hg3.block⟩
      have y0 := cell_grown (unhide HNM) hg3' z0
      have y1 := cell_grown (unhide HNM) hg3' z1
      have y2 := cell_grown (unhide HNM) hg3' z2
      have y3 := cell_grown (unhide HNM) hg3' z3
      have y4 := cell_grown (unhide HNM) hg3' q5
      have HG3 := hide ((unhide HG).trans hg3')
      have HOR : Hid (allP (nodeP T f cls fn) envi q.kids = some env3 ∧ e = .returned .nilIface ∨ allP (nodeP T f cls fn) envi q.kids = none ∧ ∃ tt pp, e = .returned (.iface tt pp)) := hor
      clear hg3 hg3' z0 z1 z2 z3 q5 hs3 hor hc0
      rcases unhide HOR with ⟨hr, rfl⟩ | ⟨hr, tt, pp, rfl⟩
      · have HR3 := hide hr
        clear hr
        refine hK.out _ _ ⟨y0, y1, y2, y3, y4⟩ (fun hHeld5 => ?_)
        clear hK K
        simp only [Act.put, List.setIfInBounds_toArray, List.set_cons_zero, List.set_cons_succ]
        refine wpAnyH_take (i := 6) (oi := { dst := some 4, op := _, type := _, pos := _, after := _, guard := _ }) (v := ?_) rfl (by kernel_rfl) (by kernel_rfl) (by kernel_rfl) (fun _ _ _ h => h) (Or.inl ⟨by rfl, ?_⟩) (by assumption) ?_
        case refine_2 =>
          intro w hSw
          try dsimp only at hSw
          go_simp
          try with_reducible rfl
        simp only [Act.put, List.setIfInBounds_toArray, List.set_cons_zero, List.set_cons_succ]
        refine wpAnyH_done (by kernel_rfl) ?_ _
        clear hHeld hHeld5
        go_wp2_with fail
        go_ret
        refine ⟨unhide HG3, Or.inl ⟨?_, rfl⟩⟩
        rw [unhide HR, unhide HA2]
        simp only [unhide HR3]
        rfl
      · have HR3 := hide hr
        clear hr
        refine hK.out _ _ ⟨y0, y1, y2, y3, y4⟩ (fun hHeld5 => ?_)
        clear hK K
        simp only [Act.put, List.setIfInBounds_toArray, List.set_cons_zero, List.set_cons_succ]
        refine wpAnyH_take (i := 6) (oi := { dst := some 4, op := _, type := _, pos := _, after := _, guard := _ }) (v := ?_) rfl (by kernel_rfl) (by kernel_rfl) (by kernel_rfl) (fun _ _ _ h => h) (Or.inl ⟨by rfl, ?_⟩) (by assumption) ?_
        case refine_2 =>
          intro w hSw
          try dsimp only at hSw
          go_simp
          try with_reducible rfl
        simp only [Act.put, List.setIfInBounds_toArray, List.set_cons_zero, List.set_cons_succ]
        refine wpAnyH_done (by kernel_rfl) ?_ _
        clear hHeld hHeld5
        go_wp2_with fail
        go_ret
        refine ⟨unhide HG3, Or.inr ⟨?_, _, _, rfl⟩⟩
        rw [unhide HR, unhide HA2]
        simp only [unhide HR3]
        rfl
end Go.Proofs.YtjcoobkpmpjpbaaGreatDoor

namespace Go.Proofs.YtjcoobkpmpjpbaaGreatDoor
open Go.RowKit Go.Maps
set_option linter.unusedVariables false

/-- Classes and functions, one behind the other; oc, ofn: the names that were there so far. -/
def headsRun (cs : List Tree) : List ByteArray → List ByteArray → List Tree → Bool
  | _, _, [] => true
  | oc, ofn, t :: r =>
    if t.kind = 2 then (if hasName oc t.text then false else if aboveOk cs t then headsRun cs (t.text :: oc) ofn r else false)
    else if t.kind = 5 then (if hasName ofn t.text then false else headsRun cs oc (t.text :: ofn) r)
    else headsRun cs oc ofn r

set_option maxRecDepth 100000 in
set_option maxHeartbeats 8000000 in
theorem checkHeads_any {M : Nat} {w : World} {hp nb : Nat} {vcl vfn : Value} {cs fns : List Tree} (h : HdAt M w hp nb vcl vfn cs fns) (hM : M ≤ w.heap.size) (hws : ∀ c ∈ cs, c.under.size ≤ 300) {b : Nat} {t : Tree} (hn : NodeAt (fun k => k < M) w (.pointer (some ⟨b, 0, none⟩)) t) (hcl : cs.length ≤ 1000000) (hll : t.kids.length ≤ 1000000) (ht : ∀ k ∈ t.kids, Wf k) :
    Calls Tryz.prog 12 #[.pointer (some ⟨hp, 0, none⟩), .pointer (some ⟨b, 0, none⟩)] w fun e w' => ItPost w (headsRun cs [] [] t.kids) e w' := by
  obtain ⟨ks, hv⟩ := node_view hn
  have HKL := hide hv.kids
  have c5 := hv.c5
  have hbM := Nat.lt_of_lt_of_le hv.lt hM
  obtain ⟨g, cap, rfl, _, _⟩ := hv.kids
  obtain ⟨L, hL⟩ : ∃ L, t.kids.length = L := ⟨_, rfl⟩
  have HLEN := hide hL
  rw [hL] at c5 hll HKL
  have H := hide h
  have HM := hide hM
  have HWS := hide hws
  have HCL := hide hcl
  have HW := hide ht
  obtain ⟨R, hR⟩ : ∃ R, headsRun cs [] [] t.kids = R := ⟨_, rfl⟩
  rw [hR]
  have HR := hide hR
  have hb1 := ((Below.refl w.heap.size w).alloc (Nat.le_refl _) (.map #[] 0)).alloc (by simp) (.map #[] 0)
  have d5 := hcellB hb1 c5
  have HB1 := hide hb1
  have HNC := hide ((NamesAt.made w).move ((Below.heap_alloc _ _ _ (by simp)).trans rfl) (w' := (w.alloc (.map #[] 0)).alloc (.map #[] 0)))
  have HNF := hide (NamesAt.made (w.alloc (.map #[] 0)))
  have hz : (w.alloc (.map #[] 0)).heap.size = w.heap.size + 1 := by simp
  rw [hz] at HNF
  clear h hM hws hcl ht hR hn hv hL hb1 hz c5
  go_enter Tryz.func12, Tryz.ntmps12
  go_wp2_with fail
  refine (newNames_any _).mono ?_
  rintro e w1 ⟨rfl, rfl⟩
  go_wp2_with fail
  refine (newNames_any _).mono ?_
  rintro e w1 ⟨rfl, rfl⟩
  have hz : (w.alloc (.map #[] 0)).heap.size = w.heap.size + 1 := by simp
  rw [hz]
  clear hz
  generalize (w.alloc (.map #[] 0)).alloc (.map #[] 0) = W at *
  go_wp2_with fail
  go_loopg [17] L (fun gg iv wr => ∃ (i : Nat) (oc ofn : List ByteArray), i ≤ L ∧ gg = L - i ∧ iv = .int .i64 i ∧ Hid (Below w.heap.size w wr) ∧ Hid (NamesAt wr w.heap.size oc) ∧ Hid (NamesAt wr (w.heap.size + 1) ofn) ∧ Hid (R = headsRun cs oc ofn (t.kids.drop i)) ∧ Hid (oc.length ≤ i ∧ ofn.length ≤ i))
  case atStart => exact ⟨0, [], [], Nat.zero_le _, rfl, rfl, HB1, HNC, HNF, (unhide HR).symm, ⟨Nat.le_refl _, Nat.le_refl _⟩⟩
  case round =>
    obtain ⟨i, oc, ofn, hi, rfl, rfl, HB, HC, HF, HA, HO⟩ := hrel
    by_cases hlt2 : i < L
    · have hlt3 : (i : Int) < (L : Int) := by omega
      obtain ⟨n, hk⟩ : ∃ n, t.kids[i]? = some n := ⟨_, List.getElem?_eq_getElem (by have := unhide HLEN; omega)⟩
      obtain ⟨g', cap', e1, _, hat⟩ := (show ListAt M w (.slice g t.kids.length cap) t.kids by rw [unhide HLEN]; exact unhide HKL).keep fun k hk => (unhide HB).block k (Nat.lt_of_lt_of_le hk (unhide HM))
      cases e1
      obtain ⟨a, bn, rfl, ha, hc, hnd⟩ := hat i n hk
      obtain ⟨kk, hkv⟩ := node_view hnd
      have x0 := hkv.c0
      have x1 := hkv.c1
      have x4 := hkv.c4
      have HND := hide hnd
      have HWN := hide (unhide HW n (List.mem_of_getElem? hk)).here.2
      have hdc := drop_cons hk
      have HA1 : Hid (R = headsRun cs oc ofn (n :: t.kids.drop (i + 1))) := by rw [← hdc]; exact HA
      have HH := hide ((unhide H).keep fun k hk => (unhide HB).block k (Nat.lt_of_lt_of_le hk (unhide HM)))
      clear hat hkv hnd hk hdc HA
      by_cases k2 : n.kind = 2
      · rw [k2] at x0
        have HA2 := hide (show R = (if hasName oc n.text then false else if aboveOk cs n then headsRun cs (n.text :: oc) ofn (t.kids.drop (i + 1)) else false) by rw [unhide HA1, headsRun, if_pos k2])
        clear HA1 k2
        go_wp2_with fail
        refine (add_name (unhide HC) (unhide HWN).1 (by have := (unhide HO).1; omega)).mono ?_
        rintro e W3 ⟨rfl, hn3, hg3⟩
        have y4 := cell_grown (unhide HC) hg3 x4
        have HB3 := hide ((unhide HB).grown hg3 (unhide HB).size (fun k hk => by have := Option.some.inj hk; omega))
        have HF3 := hide ((unhide HF).move (hg3.block _ (unhide HF).lt (fun e => by have := Option.some.inj e; omega)))
        have HH3 := hide ((unhide H).keep fun k hk => (unhide HB3).block k (Nat.lt_of_lt_of_le hk (unhide HM)))
        have HND3 := hide (node_keep (unhide HND) (w' := W3) fun k hk => ((unhide HB3).block k (Nat.lt_of_lt_of_le hk (unhide HM))).trans ((unhide HB).block k (Nat.lt_of_lt_of_le hk (unhide HM))).symm)
        have HN3 := hide hn3
        clear hn3 hg3 x0 x1 x4
        cases hh : hasName oc n.text with
        | true =>
          have HA3 := hide (show R = false by rw [unhide HA2, hh]; rfl)
          clear hh
          go_wp2_with fail
          refine (wrong_any 9 y4).mono ?_
          rintro e W9 ⟨hb9, pp, rfl⟩
          have HB9 := hide ((unhide HB3).trans (hb9.mono (unhide HB3).size))
          clear hb9
          go_wp2_with fail
          go_ret
          exact ⟨unhide HB9, Or.inr ⟨unhide HA3, _, _, rfl⟩⟩
        | false =>
          have HA3 := hide (show R = (if aboveOk cs n then headsRun cs (n.text :: oc) ofn (t.kids.drop (i + 1)) else false) by rw [unhide HA2, hh]; rfl)
          have HN4 := hide (show NamesAt W3 w.heap.size (n.text :: oc) by have := unhide HN3; rw [hh] at this; exact this)
          clear hh
          go_wp2_with fail
          refine (checkAbove_any (unhide HH3) (unhide HWS) (unhide HND3) (unhide HCL) (unhide HWN).1 (unhide HWN).2).mono ?_
          rintro e W4 ⟨hb4, hor⟩
          have HB4 := hide ((unhide HB3).trans (hb4.mono (unhide HB3).size))
          have HN5 := hide ((unhide HN4).move (hb4.block _ (unhide HN4).lt))
          have HF5 := hide ((unhide HF3).move (hb4.block _ (unhide HF3).lt))
          clear hb4 y4
          rcases hor with ⟨hr, rfl⟩ | ⟨hr, tt, pp, rfl⟩
          · have HA4 := hide (show R = headsRun cs (n.text :: oc) ofn (t.kids.drop (i + 1)) by rw [unhide HA3, if_pos hr])
            clear hr
            go_wp2_with fail
            go_roundg (L - (i + 1))
            case measure => omega
            case rel => exact ⟨i + 1, n.text :: oc, ofn, by omega, rfl, by go_num, HB4, HN5, HF5, HA4, by have := unhide HO; exact ⟨by rw [List.length_cons]; omega, by omega⟩⟩
          · have HA4 := hide (show R = false by rw [unhide HA3, if_neg (by rw [hr]; decide)])
            clear hr
            go_wp2_with fail
            go_ret
            exact ⟨unhide HB4, Or.inr ⟨unhide HA4, _, _, rfl⟩⟩
      · have dd2 : ((n.kind : Int) == 2) = false := by simpa using fun q : (n.kind : Int) = 2 => k2 (by omega)
        have ff2 : ¬ ((n.kind : Int) = 2) := fun q => k2 (by omega)
        by_cases k5 : n.kind = 5
        · clear dd2 ff2
          rw [k5] at x0
          have HA2 := hide (show R = (if hasName ofn n.text then false else headsRun cs oc (n.text :: ofn) (t.kids.drop (i + 1))) by rw [unhide HA1, headsRun, if_neg k2, if_pos k5])
          clear HA1 k2 k5
          go_wp2_with fail
          refine (add_name (unhide HF) (unhide HWN).1 (by have := (unhide HO).2; omega)).mono ?_
          rintro e W3 ⟨rfl, hn3, hg3⟩
          have y4 := cell_grown (unhide HF) hg3 x4
          have HB3 := hide ((unhide HB).grown hg3 (unhide HB).size (fun k hk => by have := Option.some.inj hk; omega))
          have HC3 := hide ((unhide HC).move (hg3.block _ (unhide HC).lt (fun e => by have := Option.some.inj e; omega)))
          have HN3 := hide hn3
          clear hn3 hg3 x0 x1 x4
          cases hh : hasName ofn n.text with
          | true =>
            have HA3 := hide (show R = false by rw [unhide HA2, hh]; rfl)
            clear hh
            go_wp2_with fail
            refine (wrong_any 9 y4).mono ?_
            rintro e W9 ⟨hb9, pp, rfl⟩
            have HB9 := hide ((unhide HB3).trans (hb9.mono (unhide HB3).size))
            clear hb9
            go_wp2_with fail
            go_ret
            exact ⟨unhide HB9, Or.inr ⟨unhide HA3, _, _, rfl⟩⟩
          | false =>
            have HA3 := hide (show R = headsRun cs oc (n.text :: ofn) (t.kids.drop (i + 1)) by rw [unhide HA2, hh]; rfl)
            have HN4 := hide (show NamesAt W3 (w.heap.size + 1) (n.text :: ofn) by have := unhide HN3; rw [hh] at this; exact this)
            clear hh y4
            go_wp2_with fail
            go_roundg (L - (i + 1))
            case measure => omega
            case rel => exact ⟨i + 1, oc, n.text :: ofn, by omega, rfl, by go_num, HB3, HC3, HN4, HA3, by have := unhide HO; exact ⟨by omega, by rw [List.length_cons]; omega⟩⟩
        · have dd5 : ((n.kind : Int) == 5) = false := by simpa using fun q : (n.kind : Int) = 5 => k5 (by omega)
          have ff5 : ¬ ((n.kind : Int) = 5) := fun q => k5 (by omega)
          have HA2 := hide (show R = headsRun cs oc ofn (t.kids.drop (i + 1)) by rw [unhide HA1, headsRun, if_neg k2, if_neg k5])
          clear HA1 k2 k5
          go_wp2_with fail
          go_roundg (L - (i + 1))
          case measure => omega
          case rel => exact ⟨i + 1, oc, ofn, by omega, rfl, by go_num, HB, HC, HF, HA2, by have := unhide HO; exact ⟨by omega, by omega⟩⟩
    · obtain rfl : i = L := by omega
      have hlt3 : decide ((i : Int) < (i : Int)) = false := by simp
      have hd : t.kids.drop i = [] := List.drop_eq_nil_of_le (by have := unhide HLEN; omega)
      have HA2 := hide (show R = true by rw [unhide HA, hd]; rfl)
      clear hd
      go_wp2_with fail
      go_ret
      exact ⟨unhide HB, Or.inl ⟨unhide HA2, rfl⟩⟩
end Go.Proofs.YtjcoobkpmpjpbaaGreatDoor

namespace Go.Proofs.YtjcoobkpmpjpbaaGreatDoor
open Go.RowKit

/-- Names that are apart from each other, and from those that were there. -/
def Fresh (o : List ByteArray) (l : List ByteArray) : Prop := (∀ s ∈ l, hasName o s = false) ∧ l.Nodup
theorem fresh_nil (o : List ByteArray) : Fresh o [] := ⟨fun _ h => (by cases h), List.nodup_nil⟩
theorem has_cons {o : List ByteArray} {s x : ByteArray} : hasName (s :: o) x = false ↔ s ≠ x ∧ hasName o x = false := by
  unfold hasName
  rw [List.any_cons, Bool.or_eq_false_iff, decide_eq_false_iff_not]
theorem fresh_cons {o : List ByteArray} {s : ByteArray} {l : List ByteArray} : Fresh o (s :: l) ↔ hasName o s = false ∧ Fresh (s :: o) l := by
  unfold Fresh
  constructor
  · rintro ⟨h1, h2⟩
    have h3 := List.nodup_cons.1 h2
    exact ⟨h1 s (List.mem_cons_self ..), fun x hx => has_cons.2 ⟨fun e => h3.1 (e ▸ hx), h1 x (List.mem_cons_of_mem _ hx)⟩, h3.2⟩
  · rintro ⟨h1, h2, h3⟩
    refine ⟨fun x hx => ?_, List.nodup_cons.2 ⟨fun hm => (has_cons.1 (h2 s hm)).1 rfl, h3⟩⟩
    rcases List.mem_cons.1 hx with rfl | hx
    · exact h1
    · exact (has_cons.1 (h2 x hx)).2
theorem cls_cons {t : Tree} {l : List Tree} : classesOf (t :: l) = if t.kind = 2 then t :: classesOf l else classesOf l := by
  unfold classesOf
  rw [List.filter_cons]
  by_cases h : t.kind = 2 <;> simp [h]
theorem fns_cons {t : Tree} {l : List Tree} : fnsOf (t :: l) = if t.kind = 5 then t :: fnsOf l else fnsOf l := by
  unfold fnsOf
  rw [List.filter_cons]
  by_cases h : t.kind = 5 <;> simp [h]
theorem headsRun_iff {cs : List Tree} : ∀ (l : List Tree) (oc ofn : List ByteArray), headsRun cs oc ofn l = true ↔ Fresh oc (textsOf (classesOf l)) ∧ Fresh ofn (textsOf (fnsOf l)) ∧ ∀ c ∈ classesOf l, aboveOk cs c = true
  | [], oc, ofn => ⟨fun _ => ⟨fresh_nil _, fresh_nil _, fun _ h => (by cases h)⟩, fun _ => rfl⟩
  | t :: l, oc, ofn => by
    rw [headsRun, cls_cons, fns_cons]
    by_cases h2 : t.kind = 2
    · have h5 : ¬ t.kind = 5 := by omega
      rw [if_pos h2, if_pos h2, if_neg h5]
      have e : textsOf (t :: classesOf l) = t.text :: textsOf (classesOf l) := rfl
      rw [e, fresh_cons]
      cases hh : hasName oc t.text with
      | true => simp
      | false =>
        cases ha : aboveOk cs t with
        | false =>
          simp only [Bool.false_eq_true, if_false, false_iff]
          rintro ⟨_, _, h⟩
          have := h t (List.mem_cons_self ..)
          rw [ha] at this
          cases this
        | true =>
          simp only [Bool.false_eq_true, if_false, if_true]
          rw [headsRun_iff l]
          constructor
          · rintro ⟨a, b, c⟩
            refine ⟨⟨trivial, a⟩, b, fun x hx => ?_⟩
            rcases List.mem_cons.1 hx with rfl | hx
            · exact ha
            · exact c x hx
          · rintro ⟨⟨_, a⟩, b, c⟩
            exact ⟨a, b, fun x hx => c x (List.mem_cons_of_mem _ hx)⟩
    · by_cases h5 : t.kind = 5
      · rw [if_neg h2, if_neg h2, if_pos h5, if_pos h5]
        have e : textsOf (t :: fnsOf l) = t.text :: textsOf (fnsOf l) := rfl
        rw [e, fresh_cons]
        cases hh : hasName ofn t.text with
        | true => simp
        | false =>
          simp only [Bool.false_eq_true, if_false]
          rw [headsRun_iff l]
          constructor
          · rintro ⟨a, b, c⟩
            exact ⟨a, ⟨trivial, b⟩, c⟩
          · rintro ⟨a, ⟨_, b⟩, c⟩
            exact ⟨a, b, c⟩
      · rw [if_neg h2, if_neg h2, if_neg h5, if_neg h5]
        exact headsRun_iff l oc ofn
theorem fresh_none {l : List ByteArray} : Fresh [] l ↔ l.Nodup := ⟨fun h => h.2, fun h => ⟨fun _ _ => rfl, h⟩⟩
/-- Heads are right just where going through them says so. -/
theorem headsRun_ok (l : List Tree) : headsRun (classesOf l) [] [] l = true ↔ headsOk l := by
  rw [headsRun_iff, fresh_none, fresh_none]
  rfl
end Go.Proofs.YtjcoobkpmpjpbaaGreatDoor

namespace Go.Proofs.YtjcoobkpmpjpbaaGreatDoor
open Go.RowKit

/-- Names one behind the other: is each new? Then all of them are there. -/
def freshRun : List ByteArray → List ByteArray → Option (List ByteArray)
  | o, [] => some o
  | o, s :: r => if hasName o s then none else freshRun (s :: o) r
theorem freshRun_iff : ∀ (l o : List ByteArray), (freshRun o l).isSome = true ↔ Fresh o l
  | [], o => ⟨fun _ => fresh_nil o, fun _ => rfl⟩
  | s :: r, o => by
    rw [freshRun, fresh_cons]
    cases h : hasName o s with
    | true => simp
    | false =>
      simp only [Bool.false_eq_true, if_false, true_and]
      exact freshRun_iff r (s :: o)
theorem freshRun_len : ∀ {l o o' : List ByteArray}, freshRun o l = some o' → o'.length = o.length + l.length
  | [], _, _, h => by cases h; rfl
  | s :: r, o, o', h => by
    rw [freshRun] at h
    split at h
    · cases h
    · rw [freshRun_len h]
      simp only [List.length_cons]
      omega
theorem freshRun_app : ∀ (l r o : List ByteArray), freshRun o (l ++ r) = (freshRun o l).bind fun o' => freshRun o' r
  | [], r, o => rfl
  | s :: l, r, o => by
    rw [List.cons_append, freshRun, freshRun]
    split
    · rfl
    · exact freshRun_app l r (s :: o)
theorem freshRun_nodup (l : List ByteArray) : (freshRun [] l).isSome = true ↔ l.Nodup := (freshRun_iff l []).trans fresh_none
/-- Fields of classes, one behind the other. -/
def flds (cs : List Tree) (pre : List Nat) : List ByteArray := (pre.map fun k => (cs[k]?).elim [] fieldsIn).flatten
theorem flds_snoc {cs : List Tree} {pre : List Nat} {k : Nat} {c : Tree} (h : cs[k]? = some c) : flds cs (pre ++ [k]) = flds cs pre ++ fieldsIn c := by
  unfold flds
  rw [List.map_append, List.flatten_append]
  simp [h]
theorem fieldsAll_flds (cs : List Tree) (i : Nat) : fieldsAll cs i = flds cs (wayUp cs cs.length (some i)).reverse := rfl
theorem field_cons {t : Tree} {l : List Tree} : textsOf ((t :: l).filter fun t => t.kind == 3) = if t.kind = 3 then t.text :: textsOf (l.filter fun t => t.kind == 3) else textsOf (l.filter fun t => t.kind == 3) := by
  rw [List.filter_cons]
  by_cases h : t.kind = 3 <;> simp [h, textsOf]
theorem method_cons {t : Tree} {l : List Tree} : ((t :: l).filter fun t => t.kind == 4) = if t.kind = 4 then t :: (l.filter fun t => t.kind == 4) else (l.filter fun t => t.kind == 4) := by
  rw [List.filter_cons]
  by_cases h : t.kind = 4 <;> simp [h]
/-- A class's fields and methods are right. -/
def rowOk (cs : List Tree) (i : Nat) (c : Tree) : Prop := (fieldsAll cs i).Nodup ∧ (textsOf (methodsIn c)).Nodup
/-- The way up, where it ends: as long as there are classes is long enough. -/
theorem way_step {cs : List Tree} (he : EndOk cs) {i : Nat} {c : Tree} (hc : cs[i]? = some c) : wayUp cs cs.length (some i) = i :: wayUp cs cs.length (numF cs c.under) := by
  have hlt := (List.getElem?_eq_some_iff.1 hc).1
  obtain ⟨f, hf⟩ : ∃ f, cs.length = f + 1 := ⟨cs.length - 1, by omega⟩
  have h1 : climb cs (f + 1) c.under = true := by
    have := he c (List.mem_of_getElem? hc)
    rw [hf] at this
    exact this
  have ha : aboveOf cs i = numF cs c.under := by
    unfold aboveOf
    rw [hc]
    rfl
  have h2 := way_long h1 (f + 1) (by omega)
  conv => lhs; rw [hf, wayUp, ha]
  rw [hf, h2]
theorem way_none (cs : List Tree) : wayUp cs cs.length none = [] := by
  cases cs.length <;> rfl
theorem way_short (cs : List Tree) : ∀ (f : Nat) (o : Option Nat), (wayUp cs f o).length ≤ f
  | 0, _ => Nat.le_refl _
  | _ + 1, none => Nat.zero_le _
  | f + 1, some i => by
    rw [wayUp, List.length_cons]
    have := way_short cs f (aboveOf cs i)
    omega
end Go.Proofs.YtjcoobkpmpjpbaaGreatDoor

namespace Go.Proofs.YtjcoobkpmpjpbaaGreatDoor
open Go.RowKit Go.Maps

/-- The nodes lie below M, the row at B or beyond it. -/
structure PRow (M B : Nat) (w : World) (v : Value) (l : List Tree) (vs : List Value) : Prop where
  own : w.ownsRow B 22 1 v l.length vs
  node : ∀ (i : Nat) (t : Tree), l[i]? = some t → ∃ b, vs[i]? = some (.pointer (some ⟨b, 0, none⟩)) ∧ NodeAt (fun k => k < M) w (.pointer (some ⟨b, 0, none⟩)) t
theorem PRow.nil (M B : Nat) (w : World) : PRow M B w (.slice none 0 0) [] [] := ⟨World.ownsRow_nil _ _ _ _, fun i t h => by simp at h⟩
theorem PRow.len {M B : Nat} {w : World} {v : Value} {l : List Tree} {vs : List Value} (h : PRow M B w v l vs) : vs.length = l.length := by
  have := h.own.1
  omega
theorem PRow.form {M B : Nat} {w : World} {v : Value} {l : List Tree} {vs : List Value} (h : PRow M B w v l vs) : ∃ a cap, v = .slice a l.length cap := by
  rcases h.own.2 with ⟨q1, q2⟩ | ⟨g, cap, cur, q1, _⟩
  · exact ⟨none, 0, by rw [q1, q2]⟩
  · exact ⟨_, _, q1⟩
theorem PRow.far {M B : Nat} {w : World} {v : Value} {l : List Tree} {vs : List Value} (h : PRow M B w v l vs) {g : Nat} (hg : v.ownBlock = some g) : B ≤ g ∧ g < w.heap.size := by
  rcases h.own.2 with ⟨q1, q2⟩ | ⟨g', cap, cur, q1, q2, q3, _⟩
  · rw [q1] at hg
    cases hg
  · rw [q1] at hg
    simp only [Value.ownBlock, Option.some.injEq] at hg
    subst hg
    exact ⟨q2, (Array.getElem?_eq_some_iff.1 q3).1⟩
theorem PRow.keep {M B : Nat} {w w' : World} {v : Value} {l : List Tree} {vs : List Value} (h : PRow M B w v l vs) (hM : ∀ k, k < M → w'.heap[k]? = w.heap[k]?) (hv : ∀ g, v.ownBlock = some g → w'.heap[g]? = w.heap[g]?) : PRow M B w' v l vs := by
  refine ⟨⟨h.own.1, ?_⟩, fun i t ht => ?_⟩
  · rcases h.own.2 with q | ⟨g, cap, cur, q1, q2, q3, q4⟩
    · exact Or.inl q
    · exact Or.inr ⟨g, cap, cur, q1, q2, (hv g (by rw [q1]; rfl)).trans q3, q4⟩
  · obtain ⟨b, h1, h2⟩ := h.node i t ht
    exact ⟨b, h1, node_keep h2 hM⟩
theorem PRow.below {M B : Nat} {w w' : World} {v : Value} {l : List Tree} {vs : List Value} (h : PRow M B w v l vs) (hb : Below w.heap.size w w') (hM : M ≤ w.heap.size) : PRow M B w' v l vs :=
  h.keep (fun k hk => hb.block k (Nat.lt_of_lt_of_le hk hM)) (fun g hg => hb.block g (h.far hg).2)
theorem PRow.grown {M B : Nat} {w w' : World} {v : Value} {l : List Tree} {vs : List Value} (h : PRow M B w v l vs) {b : Nat} (hg : w.grownBy w' (some b)) (hM : M ≤ w.heap.size) (hb : M ≤ b) (hv : v.ownBlock ≠ some b) : PRow M B w' v l vs :=
  h.keep (fun k hk => hg.block k (Nat.lt_of_lt_of_le hk hM) (fun e => by have := Option.some.inj e; omega)) (fun g q => hg.block g (h.far q).2 (fun e => hv (by rw [q, e])))
theorem PRow.more {M B : Nat} {w w' : World} {v : Value} {l : List Tree} {vs : List Value} (h : PRow M B w v l vs) {g cap b : Nat} {t : Tree} (hown : w'.ownsRow B 22 1 (.slice (some ⟨g, 0, none⟩) (l.length + 1) cap) (l.length + 1) (vs ++ [.pointer (some ⟨b, 0, none⟩)])) (hg : w.grownBy w' v.ownBlock) (hn : NodeAt (fun k => k < M) w (.pointer (some ⟨b, 0, none⟩)) t) (hM : M ≤ w.heap.size) (hB : M ≤ B) : PRow M B w' (.slice (some ⟨g, 0, none⟩) (l.length + 1) cap) (l ++ [t]) (vs ++ [.pointer (some ⟨b, 0, none⟩)]) := by
  have hk : ∀ k, k < M → w'.heap[k]? = w.heap[k]? := fun k hk => hg.block k (Nat.lt_of_lt_of_le hk hM) (fun e => by have := (h.far e.symm).1; omega)
  refine ⟨by rw [List.length_append]; exact hown, fun i u hu => ?_⟩
  have hl := h.len
  by_cases hi : i < l.length
  · rw [List.getElem?_append_left hi] at hu
    obtain ⟨c, h1, h2⟩ := h.node i u hu
    exact ⟨c, by rw [List.getElem?_append_left (by omega)]; exact h1, node_keep h2 hk⟩
  · have hi2 := (List.getElem?_eq_some_iff.1 hu).1
    rw [List.length_append, List.length_singleton] at hi2
    obtain rfl : i = l.length := by omega
    have : u = t := by simpa using hu.symm
    subst this
    exact ⟨b, by simp [← hl], node_keep hn hk⟩
theorem PRow.list {M B : Nat} {w : World} {v : Value} {l : List Tree} {vs : List Value} (h : PRow M B w v l vs) (hM : M ≤ w.heap.size) : ListAt w.heap.size w v l := by
  have hl := h.len
  rcases h.own.2 with ⟨q1, q2⟩ | ⟨g, cap, cur, q1, q2, q3, q4, q5, q6, q7⟩
  · refine ⟨none, 0, by rw [q1, q2], by rw [q2]; exact Nat.zero_le _, fun i t ht => ?_⟩
    have := (List.getElem?_eq_some_iff.1 ht).1
    omega
  · refine ⟨some ⟨g, 0, none⟩, cap, q1, by omega, fun i t ht => ?_⟩
    obtain ⟨b, h1, h2⟩ := h.node i t ht
    have hi := (List.getElem?_eq_some_iff.1 ht).1
    refine ⟨g, b, rfl, (Array.getElem?_eq_some_iff.1 q3).1, ?_, NodeAt.mono h2 fun k hk => Nat.lt_of_lt_of_le hk hM⟩
    rw [hcell q3 i, ← h1, ← q7, ← Array.getElem?_toList, List.getElem?_take_of_lt (by omega)]
end Go.Proofs.YtjcoobkpmpjpbaaGreatDoor
