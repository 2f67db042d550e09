/-
  Instructions, handlers and variables are read.
  Lists that are read: what holds in each round.
-/
import Derived.Test.YtkafldkhmkdafaaGreatDoorM17
namespace Go.Proofs.YtkafldkhmkdafaaGreatDoor
open Go.RowKit
attribute [local go_sem ↓] Go.wp_at_zero Go.wp_at_succ

theorem Ext.cell {r : Nat} {w w' : World} (h : Ext r w w') {a : Addr} {v : Value} (hc : w.cell? a = some v) (hne : a.block ≠ r) : w'.cell? a = some v :=
  (World.cell?_of_block (h.block a.block (cell_lt hc) hne)).trans hc
theorem Ext.setNew {r : Nat} {a w : World} (h : Ext r a w) {b : Nat} (hb : a.heap.size ≤ b) (i : Nat) (v : Value) : Ext r a (w.setCell ⟨b, i, none⟩ v) :=
  ⟨h.os, h.tape, h.output, by have := h.size; simpa [World.setCell] using this, fun k hk hr => (hother v (by omega)).trans (h.block k hk hr)⟩
theorem RdAt.far {w w' : World} {r : Nat} {l : List Int} {wb : Bool} (h : RdAt w r l wb) (hb : ∀ k, k ≤ r → w'.heap[k]? = w.heap[k]?) : RdAt w' r l wb := by
  obtain ⟨g, cap, t, h1, h2, h3⟩ := h.blk
  refine ⟨⟨g, cap, t, (hb r (Nat.le_refl _)).trans h1, h2, fun i hi => ?_⟩, h.byte, h.len⟩
  obtain ⟨b, o, e, hr, hc⟩ := h3 i hi
  exact ⟨b, o, e, hr, (World.cell?_of_block (hb b (by omega))).trans hc⟩
theorem RdAt.setFar {w : World} {r : Nat} {l : List Int} {wb : Bool} (h : RdAt w r l wb) {b : Nat} (hb : r < b) (i : Nat) (v : Value) : RdAt (w.setCell ⟨b, i, none⟩ v) r l wb :=
  h.far fun k hk => hother v (by omega)
theorem cell_setFar {w : World} {a : Addr} {v : Value} (h : w.cell? a = some v) {b : Nat} (hne : a.block ≠ b) (i : Nat) (u : Value) : (w.setCell ⟨b, i, none⟩ u).cell? a = some v := (World.cell?_of_block (hother u hne)).trans h
theorem Below.drew {B : Nat} {w w' : World} (h : Below B w w') : Below B w w'.drew := ⟨h.os, h.tape, h.output, h.size, h.block⟩
theorem Ext.of_below {r : Nat} {w w' : World} (h : Below w.heap.size w w') : Ext r w w' := ⟨h.os, h.tape, h.output, h.size, fun k hk _ => h.block k hk⟩

/-- What was read: x, by its bytes, if nothing is wrong. -/
def Got {X : Type} (ok : X → Prop) (enc : X → List Int) (val : X → Value) (r : Nat) (l : List Int) (wb : Bool) (w : World) (e : Ending) (w' : World) : Prop :=
  ∃ (x : X) (l' : List Int) (wb' : Bool), e = .returned (val x) ∧ ok x ∧ RdAt w' r l' wb' ∧ Ext r w w' ∧ l'.length ≤ l.length ∧ Tel ok enc wb wb' l x l'
def okI (x : PI) : Prop := I64 x.op ∧ I64 x.a ∧ I64 x.b
def okH (x : PH) : Prop := I64 x.fr ∧ I64 x.to ∧ I64 x.tg
def okV (x : PV) : Prop := I64 x.slot ∧ I64 x.fr ∧ I64 x.to
def okC (x : PC) : Prop := I64 x.n ∧ (x.text = true → x.n = 0) ∧ (x.text = false → x.s = ⟨#[]⟩)
def okS (_ : ByteArray) : Prop := True
def valI (x : PI) : Value := .agg #[.int .i64 x.op, .int .i64 x.a, .int .i64 x.b]
def valH (x : PH) : Value := .agg #[.int .i64 x.fr, .int .i64 x.to, .int .i64 x.tg]
def valV (x : PV) : Value := .agg #[.string x.name, .int .i64 x.slot, .int .i64 x.fr, .int .i64 x.to, .bool x.boxed]
def valC (x : PC) : Value := .agg #[.bool x.text, .string x.s, .int .i64 x.n]
theorem rtext_got {w : World} {r : Nat} {l : List Int} {wb : Bool} (h : RdAt w r l wb) :
    Calls Tryz.prog 55 #[.pointer (some ⟨r, 0, none⟩)] w fun e w' => Got okS encT Value.string r l wb w e w' :=
  (rtext_any h).mono fun _ _ ⟨s, l', wb', h1, h2⟩ => ⟨s, l', wb', h1, trivial, h2⟩

set_option maxRecDepth 100000 in
set_option maxHeartbeats 4000000 in
theorem instr_any {w : World} {r bx : Nat} {l : List Int} {wb : Bool} (h : RdAt w r l wb) (hx : w.cell? ⟨bx, 0, none⟩ = some (.pointer (some ⟨r, 0, none⟩))) (hbx : bx ≠ r) :
    Calls Tryz.prog 59 #[.pointer (some ⟨bx, 0, none⟩)] w fun e w' => Got okI encI valI r l wb w e w' := by
  have hrl := h.lt
  obtain ⟨w0, hw0⟩ : ∃ w0, w.alloc (.cells #[.int .i64 0, .int .i64 0, .int .i64 0] 71) = w0 := ⟨_, rfl⟩
  have hb0 : Below w.heap.size w w0 := by rw [← hw0]; exact (Below.refl _ _).alloc (Nat.le_refl _) _
  have hk0 : w0.heap[w.heap.size]? = some (.cells #[.int .i64 0, .int .i64 0, .int .i64 0] 71 (0, 0)) := by rw [← hw0]; exact hnew _ _
  have H0 : Hid (RdAt w0.drew r l wb) := h.keep hb0.drew
  have E0 : Hid (Ext r w w0.drew) := Ext.of_below hb0.drew
  have K0 : Hid (w0.drew.heap[w.heap.size]? = _) := hk0
  have y : w0.cell? ⟨bx, 0, none⟩ = _ := cellk hb0 hx (cell_lt hx)
  have x0 : Hid (w0.drew.cell? ⟨bx, 0, none⟩ = _) := y
  have HBX := hide hbx
  have HBL := hide (show bx ≠ w.heap.size from Nat.ne_of_lt (cell_lt hx))
  have HRB := hide (show w.heap.size ≠ r by omega)
  clear h hx hbx hb0 hk0
  go_enter Tryz.func59, Tryz.ntmps59
  go_wp2_with fail
  try rw [hw0]
  clear hw0
  refine wp_region_held_drew (S := (fun w' => w'.cell? ⟨bx, 0, none⟩ = some (.pointer (some ⟨r, 0, none⟩)))) (by kernel_rfl) (by go_keep) (fun hHeld => ?_)
  refine wpAnyH_take (i := 0) (oi := { dst := some 2, op := _, type := _, pos := _, after := _, guard := _ }) (v := ?_) rfl (by kernel_rfl) (by kernel_rfl) (by kernel_rfl) (fun _ _ _ h => h) (Or.inl ⟨by rfl, ?_⟩) (by assumption) ?_
  case refine_2 =>
    intro w hSw
    try dsimp only at hSw
    go_simp
    try with_reducible rfl
  simp only [Act.put, List.setIfInBounds_toArray, List.set_cons_zero, List.set_cons_succ]
  refine wpAnyH_take (i := 2) (oi := { dst := some 4, op := _, type := _, pos := _, after := _, guard := _ }) (v := ?_) rfl (by kernel_rfl) (by kernel_rfl) (by kernel_rfl) (fun _ _ _ h => h) (Or.inl ⟨by rfl, ?_⟩) (by assumption) ?_
  case refine_2 =>
    intro w hSw
    try dsimp only at hSw
    go_simp
    try with_reducible rfl
  simp only [Act.put, List.setIfInBounds_toArray, List.set_cons_zero, List.set_cons_succ]
  refine wpAnyH_take (i := 4) (oi := { dst := some 6, op := _, type := _, pos := _, after := _, guard := _ }) (v := ?_) rfl (by kernel_rfl) (by kernel_rfl) (by kernel_rfl) (fun _ _ _ h => h) (Or.inl ⟨by rfl, ?_⟩) (by assumption) ?_
  case refine_2 =>
    intro w hSw
    try dsimp only at hSw
    go_simp
    try with_reducible rfl
  simp only [Act.put, List.setIfInBounds_toArray, List.set_cons_zero, List.set_cons_succ]
  refine wpAnyH_ready (rs := [1]) (by kernel_rfl) (by simp) ?_
  refine AllReadyH.cons (o := { dst := some 3, op := _, type := _, pos := _, after := _, guard := _ }) rfl (fun K hK => ?_) AllReadyH.nil
  go_simp
  refine (number_any (unhide H0)).mono ?_
  rintro e w1 ⟨n1, l1, b1, rfl, in1, hr1, he1, hl1, hw1⟩
  have x1 : Hid (w1.cell? ⟨bx, 0, none⟩ = _) := he1.cell (unhide x0) (unhide HBX)
  have H1 := hide hr1
  have E1 := hide ((unhide E0).trans he1)
  have K1 := hide ((he1.block _ (hlt (unhide K0)) (unhide HRB)).trans (unhide K0))
  have L1 := hide hl1
  have W1 := hide hw1
  clear hr1 he1 hl1 hw1
  refine hK.out _ _ (unhide x1) (fun hHeld1 => ?_)
  clear hK K
  refine wpAnyH_ready (rs := [3]) (by kernel_rfl) (by simp) ?_
  refine AllReadyH.cons (o := { dst := some 5, op := _, type := _, pos := _, after := _, guard := _ }) rfl (fun K hK => ?_) AllReadyH.nil
  go_simp
  refine (number_any (unhide H1)).mono ?_
  rintro e w2 ⟨n2, l2, b2, rfl, in2, hr2, he2, hl2, hw2⟩
  have x2 : Hid (w2.cell? ⟨bx, 0, none⟩ = _) := he2.cell (unhide x1) (unhide HBX)
  have H2 := hide hr2
  have E2 := hide ((unhide E1).trans he2)
  have K2 := hide ((he2.block _ (hlt (unhide K1)) (unhide HRB)).trans (unhide K1))
  have L2 := hide hl2
  have W2 := hide hw2
  clear hr2 he2 hl2 hw2
  refine hK.out _ _ (unhide x2) (fun hHeld2 => ?_)
  clear hK K
  refine wpAnyH_ready (rs := [5]) (by kernel_rfl) (by simp) ?_
  refine AllReadyH.cons (o := { dst := some 7, op := _, type := _, pos := _, after := _, guard := _ }) rfl (fun K hK => ?_) AllReadyH.nil
  go_simp
  refine (number_any (unhide H2)).mono ?_
  rintro e w3 ⟨n3, l3, b3, rfl, in3, hr3, he3, hl3, hw3⟩
  have x3 : Hid (w3.cell? ⟨bx, 0, none⟩ = _) := he3.cell (unhide x2) (unhide HBX)
  have H3 := hide hr3
  have E3 := hide ((unhide E2).trans he3)
  have K3 := hide ((he3.block _ (hlt (unhide K2)) (unhide HRB)).trans (unhide K2))
  have L3 := hide hl3
  have W3 := hide hw3
  clear hr3 he3 hl3 hw3
  have kb := unhide K3
  have z0 := hcell kb 0
  have y0 := hfroz kb 0
  have z1 := hcell kb 1
  have y1 := hfroz kb 1
  have z2 := hcell kb 2
  have y2 := hfroz kb 2
  clear kb y
  refine hK.out _ _ (unhide x3) (fun hHeld3 => ?_)
  clear hK K
  refine wpAnyH_take (i := 6) (oi := { dst := some 8, op := _, type := _, pos := _, after := _, guard := _ }) (v := ?_) rfl (by kernel_rfl) (by kernel_rfl) (by kernel_rfl) (fun _ _ _ h => h) (Or.inl ⟨by rfl, ?_⟩) (by assumption) ?_
  case refine_2 =>
    intro w hSw
    try dsimp only at hSw
    go_simp
    try with_reducible rfl
  simp only [Act.put, List.setIfInBounds_toArray, List.set_cons_zero, List.set_cons_succ]
  refine wpAnyH_ready (rs := [7]) (by kernel_rfl) (by simp) ?_
  refine AllReadyH.cons (o := { dst := none, op := _, type := _, pos := _, after := _, guard := _ }) rfl (fun K hK => ?_) AllReadyH.nil
  go_simp
  refine hK.out _ _ (cell_setFar (cell_setFar (cell_setFar (unhide x3) (unhide HBL) 0 _) (unhide HBL) 1 _) (unhide HBL) 2 _) (fun hHeldS => ?_)
  clear hK K
  refine wpAnyH_done (by kernel_rfl) ?_ _
  clear z0 y0
  clear z1 y1
  clear z2 y2
  have hfin : (((w3.setCell ⟨w.heap.size, 0, none⟩ (.int .i64 n1)).setCell ⟨w.heap.size, 1, none⟩ (.int .i64 n2)).setCell ⟨w.heap.size, 2, none⟩ (.int .i64 n3)).heap[w.heap.size]? = some (.cells #[.int .i64 n1, .int .i64 n2, .int .i64 n3] 71 (0, 0)) := (hset (hset (hset (unhide K3) 0 (.int .i64 n1)) 1 (.int .i64 n2)) 2 (.int .i64 n3))
  go_wp2_with fail
  refine bodyPost_ret (v := .agg #[.int .i64 n1, .int .i64 n2, .int .i64 n3]) (results_cell_row Tryz.results59 _ _ w.heap.size 71 _ (0, 0) _ rfl hfin Tryz.underlying71 rfl (by kernel_rfl)) rfl ?_
  refine ⟨⟨n1, n2, n3⟩, l3, b3, rfl, ⟨in1, in2, in3⟩, ((((unhide H3).setFar hrl 0 _).setFar hrl 1 _).setFar hrl 2 _), ((((unhide E3).setNew (Nat.le_refl _) 0 _).setNew (Nat.le_refl _) 1 _).setNew (Nat.le_refl _) 2 _), Nat.le_trans (unhide L3) (Nat.le_trans (unhide L2) (unhide L1)), ?_⟩
  exact ((unhide W1).pair ((unhide W2).pair (unhide W3) encN_pf in2) encN_pf in1).map (fun x : PI => (x.op, x.a, x.b)) rfl (fun _ h => ⟨h.1, h.2.1, h.2.2⟩) (fun _ _ => rfl)

set_option maxRecDepth 100000 in
set_option maxHeartbeats 4000000 in
theorem hand_any {w : World} {r bx : Nat} {l : List Int} {wb : Bool} (h : RdAt w r l wb) (hx : w.cell? ⟨bx, 0, none⟩ = some (.pointer (some ⟨r, 0, none⟩))) (hbx : bx ≠ r) :
    Calls Tryz.prog 61 #[.pointer (some ⟨bx, 0, none⟩)] w fun e w' => Got okH encH valH r l wb w e w' := by
  have hrl := h.lt
  obtain ⟨w0, hw0⟩ : ∃ w0, w.alloc (.cells #[.int .i64 0, .int .i64 0, .int .i64 0] 74) = w0 := ⟨_, rfl⟩
  have hb0 : Below w.heap.size w w0 := by rw [← hw0]; exact (Below.refl _ _).alloc (Nat.le_refl _) _
  have hk0 : w0.heap[w.heap.size]? = some (.cells #[.int .i64 0, .int .i64 0, .int .i64 0] 74 (0, 0)) := by rw [← hw0]; exact hnew _ _
  have H0 : Hid (RdAt w0.drew r l wb) := h.keep hb0.drew
  have E0 : Hid (Ext r w w0.drew) := Ext.of_below hb0.drew
  have K0 : Hid (w0.drew.heap[w.heap.size]? = _) := hk0
  have y : w0.cell? ⟨bx, 0, none⟩ = _ := cellk hb0 hx (cell_lt hx)
  have x0 : Hid (w0.drew.cell? ⟨bx, 0, none⟩ = _) := y
  have HBX := hide hbx
  have HBL := hide (show bx ≠ w.heap.size from Nat.ne_of_lt (cell_lt hx))
  have HRB := hide (show w.heap.size ≠ r by omega)
  clear h hx hbx hb0 hk0
  go_enter Tryz.func61, Tryz.ntmps61
  go_wp2_with fail
  try rw [hw0]
  clear hw0
  refine wp_region_held_drew (S := (fun w' => w'.cell? ⟨bx, 0, none⟩ = some (.pointer (some ⟨r, 0, none⟩)))) (by kernel_rfl) (by go_keep) (fun hHeld => ?_)
  refine wpAnyH_take (i := 0) (oi := { dst := some 2, op := _, type := _, pos := _, after := _, guard := _ }) (v := ?_) rfl (by kernel_rfl) (by kernel_rfl) (by kernel_rfl) (fun _ _ _ h => h) (Or.inl ⟨by rfl, ?_⟩) (by assumption) ?_
  case refine_2 =>
    intro w hSw
    try dsimp only at hSw
    go_simp
    try with_reducible rfl
  simp only [Act.put, List.setIfInBounds_toArray, List.set_cons_zero, List.set_cons_succ]
  refine wpAnyH_take (i := 2) (oi := { dst := some 4, op := _, type := _, pos := _, after := _, guard := _ }) (v := ?_) rfl (by kernel_rfl) (by kernel_rfl) (by kernel_rfl) (fun _ _ _ h => h) (Or.inl ⟨by rfl, ?_⟩) (by assumption) ?_
  case refine_2 =>
    intro w hSw
    try dsimp only at hSw
    go_simp
    try with_reducible rfl
  simp only [Act.put, List.setIfInBounds_toArray, List.set_cons_zero, List.set_cons_succ]
  refine wpAnyH_take (i := 4) (oi := { dst := some 6, op := _, type := _, pos := _, after := _, guard := _ }) (v := ?_) rfl (by kernel_rfl) (by kernel_rfl) (by kernel_rfl) (fun _ _ _ h => h) (Or.inl ⟨by rfl, ?_⟩) (by assumption) ?_
  case refine_2 =>
    intro w hSw
    try dsimp only at hSw
    go_simp
    try with_reducible rfl
  simp only [Act.put, List.setIfInBounds_toArray, List.set_cons_zero, List.set_cons_succ]
  refine wpAnyH_ready (rs := [1]) (by kernel_rfl) (by simp) ?_
  refine AllReadyH.cons (o := { dst := some 3, op := _, type := _, pos := _, after := _, guard := _ }) rfl (fun K hK => ?_) AllReadyH.nil
  go_simp
  refine (number_any (unhide H0)).mono ?_
  rintro e w1 ⟨n1, l1, b1, rfl, in1, hr1, he1, hl1, hw1⟩
  have x1 : Hid (w1.cell? ⟨bx, 0, none⟩ = _) := he1.cell (unhide x0) (unhide HBX)
  have H1 := hide hr1
  have E1 := hide ((unhide E0).trans he1)
  have K1 := hide ((he1.block _ (hlt (unhide K0)) (unhide HRB)).trans (unhide K0))
  have L1 := hide hl1
  have W1 := hide hw1
  clear hr1 he1 hl1 hw1
  refine hK.out _ _ (unhide x1) (fun hHeld1 => ?_)
  clear hK K
  refine wpAnyH_ready (rs := [3]) (by kernel_rfl) (by simp) ?_
  refine AllReadyH.cons (o := { dst := some 5, op := _, type := _, pos := _, after := _, guard := _ }) rfl (fun K hK => ?_) AllReadyH.nil
  go_simp
  refine (number_any (unhide H1)).mono ?_
  rintro e w2 ⟨n2, l2, b2, rfl, in2, hr2, he2, hl2, hw2⟩
  have x2 : Hid (w2.cell? ⟨bx, 0, none⟩ = _) := he2.cell (unhide x1) (unhide HBX)
  have H2 := hide hr2
  have E2 := hide ((unhide E1).trans he2)
  have K2 := hide ((he2.block _ (hlt (unhide K1)) (unhide HRB)).trans (unhide K1))
  have L2 := hide hl2
  have W2 := hide hw2
  clear hr2 he2 hl2 hw2
  refine hK.out _ _ (unhide x2) (fun hHeld2 => ?_)
  clear hK K
  refine wpAnyH_ready (rs := [5]) (by kernel_rfl) (by simp) ?_
  refine AllReadyH.cons (o := { dst := some 7, op := _, type := _, pos := _, after := _, guard := _ }) rfl (fun K hK => ?_) AllReadyH.nil
  go_simp
  refine (number_any (unhide H2)).mono ?_
  rintro e w3 ⟨n3, l3, b3, rfl, in3, hr3, he3, hl3, hw3⟩
  have x3 : Hid (w3.cell? ⟨bx, 0, none⟩ = _) := he3.cell (unhide x2) (unhide HBX)
  have H3 := hide hr3
  have E3 := hide ((unhide E2).trans he3)
  have K3 := hide ((he3.block _ (hlt (unhide K2)) (unhide HRB)).trans (unhide K2))
  have L3 := hide hl3
  have W3 := hide hw3
  clear hr3 he3 hl3 hw3
  have kb := unhide K3
  have z0 := hcell kb 0
  have y0 := hfroz kb 0
  have z1 := hcell kb 1
  have y1 := hfroz kb 1
  have z2 := hcell kb 2
  have y2 := hfroz kb 2
  clear kb y
  refine hK.out _ _ (unhide x3) (fun hHeld3 => ?_)
  clear hK K
  refine wpAnyH_take (i := 6) (oi := { dst := some 8, op := _, type := _, pos := _, after := _, guard := _ }) (v := ?_) rfl (by kernel_rfl) (by kernel_rfl) (by kernel_rfl) (fun _ _ _ h => h) (Or.inl ⟨by rfl, ?_⟩) (by assumption) ?_
  case refine_2 =>
    intro w hSw
    try dsimp only at hSw
    go_simp
    try with_reducible rfl
  simp only [Act.put, List.setIfInBounds_toArray, List.set_cons_zero, List.set_cons_succ]
  refine wpAnyH_ready (rs := [7]) (by kernel_rfl) (by simp) ?_
  refine AllReadyH.cons (o := { dst := none, op := _, type := _, pos := _, after := _, guard := _ }) rfl (fun K hK => ?_) AllReadyH.nil
  go_simp
  refine hK.out _ _ (cell_setFar (cell_setFar (cell_setFar (unhide x3) (unhide HBL) 0 _) (unhide HBL) 1 _) (unhide HBL) 2 _) (fun hHeldS => ?_)
  clear hK K
  refine wpAnyH_done (by kernel_rfl) ?_ _
  clear z0 y0
  clear z1 y1
  clear z2 y2
  have hfin : (((w3.setCell ⟨w.heap.size, 0, none⟩ (.int .i64 n1)).setCell ⟨w.heap.size, 1, none⟩ (.int .i64 n2)).setCell ⟨w.heap.size, 2, none⟩ (.int .i64 n3)).heap[w.heap.size]? = some (.cells #[.int .i64 n1, .int .i64 n2, .int .i64 n3] 74 (0, 0)) := (hset (hset (hset (unhide K3) 0 (.int .i64 n1)) 1 (.int .i64 n2)) 2 (.int .i64 n3))
  go_wp2_with fail
  refine bodyPost_ret (v := .agg #[.int .i64 n1, .int .i64 n2, .int .i64 n3]) (results_cell_row Tryz.results61 _ _ w.heap.size 74 _ (0, 0) _ rfl hfin Tryz.underlying74 rfl (by kernel_rfl)) rfl ?_
  refine ⟨⟨n1, n2, n3⟩, l3, b3, rfl, ⟨in1, in2, in3⟩, ((((unhide H3).setFar hrl 0 _).setFar hrl 1 _).setFar hrl 2 _), ((((unhide E3).setNew (Nat.le_refl _) 0 _).setNew (Nat.le_refl _) 1 _).setNew (Nat.le_refl _) 2 _), Nat.le_trans (unhide L3) (Nat.le_trans (unhide L2) (unhide L1)), ?_⟩
  exact ((unhide W1).pair ((unhide W2).pair (unhide W3) encN_pf in2) encN_pf in1).map (fun x : PH => (x.fr, x.to, x.tg)) rfl (fun _ h => ⟨h.1, h.2.1, h.2.2⟩) (fun _ _ => rfl)

set_option maxRecDepth 100000 in
set_option maxHeartbeats 4000000 in
theorem var_any {w : World} {r bx : Nat} {l : List Int} {wb : Bool} (h : RdAt w r l wb) (hx : w.cell? ⟨bx, 0, none⟩ = some (.pointer (some ⟨r, 0, none⟩))) (hbx : bx ≠ r) :
    Calls Tryz.prog 63 #[.pointer (some ⟨bx, 0, none⟩)] w fun e w' => Got okV encV valV r l wb w e w' := by
  have hrl := h.lt
  obtain ⟨w0, hw0⟩ : ∃ w0, w.alloc (.cells #[.string ⟨#[]⟩, .int .i64 0, .int .i64 0, .int .i64 0, .bool false] 77) = w0 := ⟨_, rfl⟩
  have hb0 : Below w.heap.size w w0 := by rw [← hw0]; exact (Below.refl _ _).alloc (Nat.le_refl _) _
  have hk0 : w0.heap[w.heap.size]? = some (.cells #[.string ⟨#[]⟩, .int .i64 0, .int .i64 0, .int .i64 0, .bool false] 77 (0, 0)) := by rw [← hw0]; exact hnew _ _
  have H0 : Hid (RdAt w0.drew r l wb) := h.keep hb0.drew
  have E0 : Hid (Ext r w w0.drew) := Ext.of_below hb0.drew
  have K0 : Hid (w0.drew.heap[w.heap.size]? = _) := hk0
  have y : w0.cell? ⟨bx, 0, none⟩ = _ := cellk hb0 hx (cell_lt hx)
  have x0 : Hid (w0.drew.cell? ⟨bx, 0, none⟩ = _) := y
  have HBX := hide hbx
  have HBL := hide (show bx ≠ w.heap.size from Nat.ne_of_lt (cell_lt hx))
  have HRB := hide (show w.heap.size ≠ r by omega)
  clear h hx hbx hb0 hk0
  go_enter Tryz.func63, Tryz.ntmps63
  go_wp2_with fail
  try rw [hw0]
  clear hw0
  refine wp_region_held_drew (S := (fun w' => w'.cell? ⟨bx, 0, none⟩ = some (.pointer (some ⟨r, 0, none⟩)))) (by kernel_rfl) (by go_keep) (fun hHeld => ?_)
  refine wpAnyH_take (i := 0) (oi := { dst := some 2, op := _, type := _, pos := _, after := _, guard := _ }) (v := ?_) rfl (by kernel_rfl) (by kernel_rfl) (by kernel_rfl) (fun _ _ _ h => h) (Or.inl ⟨by rfl, ?_⟩) (by assumption) ?_
  case refine_2 =>
    intro w hSw
    try dsimp only at hSw
    go_simp
    try with_reducible rfl
  simp only [Act.put, List.setIfInBounds_toArray, List.set_cons_zero, List.set_cons_succ]
  refine wpAnyH_take (i := 2) (oi := { dst := some 4, op := _, type := _, pos := _, after := _, guard := _ }) (v := ?_) rfl (by kernel_rfl) (by kernel_rfl) (by kernel_rfl) (fun _ _ _ h => h) (Or.inl ⟨by rfl, ?_⟩) (by assumption) ?_
  case refine_2 =>
    intro w hSw
    try dsimp only at hSw
    go_simp
    try with_reducible rfl
  simp only [Act.put, List.setIfInBounds_toArray, List.set_cons_zero, List.set_cons_succ]
  refine wpAnyH_take (i := 4) (oi := { dst := some 6, op := _, type := _, pos := _, after := _, guard := _ }) (v := ?_) rfl (by kernel_rfl) (by kernel_rfl) (by kernel_rfl) (fun _ _ _ h => h) (Or.inl ⟨by rfl, ?_⟩) (by assumption) ?_
  case refine_2 =>
    intro w hSw
    try dsimp only at hSw
    go_simp
    try with_reducible rfl
  simp only [Act.put, List.setIfInBounds_toArray, List.set_cons_zero, List.set_cons_succ]
  refine wpAnyH_take (i := 6) (oi := { dst := some 8, op := _, type := _, pos := _, after := _, guard := _ }) (v := ?_) rfl (by kernel_rfl) (by kernel_rfl) (by kernel_rfl) (fun _ _ _ h => h) (Or.inl ⟨by rfl, ?_⟩) (by assumption) ?_
  case refine_2 =>
    intro w hSw
    try dsimp only at hSw
    go_simp
    try with_reducible rfl
  simp only [Act.put, List.setIfInBounds_toArray, List.set_cons_zero, List.set_cons_succ]
  refine wpAnyH_take (i := 8) (oi := { dst := some 10, op := _, type := _, pos := _, after := _, guard := _ }) (v := ?_) rfl (by kernel_rfl) (by kernel_rfl) (by kernel_rfl) (fun _ _ _ h => h) (Or.inl ⟨by rfl, ?_⟩) (by assumption) ?_
  case refine_2 =>
    intro w hSw
    try dsimp only at hSw
    go_simp
    try with_reducible rfl
  simp only [Act.put, List.setIfInBounds_toArray, List.set_cons_zero, List.set_cons_succ]
  refine wpAnyH_ready (rs := [1]) (by kernel_rfl) (by simp) ?_
  refine AllReadyH.cons (o := { dst := some 3, op := _, type := _, pos := _, after := _, guard := _ }) rfl (fun K hK => ?_) AllReadyH.nil
  go_simp
  refine (rtext_any (unhide H0)).mono ?_
  rintro e w1 ⟨s, l1, b1, rfl, hr1, he1, hl1, hw1⟩
  have x1 : Hid (w1.cell? ⟨bx, 0, none⟩ = _) := he1.cell (unhide x0) (unhide HBX)
  have H1 := hide hr1
  have E1 := hide ((unhide E0).trans he1)
  have K1 := hide ((he1.block _ (hlt (unhide K0)) (unhide HRB)).trans (unhide K0))
  have L1 := hide hl1
  have W1 := hide hw1
  clear hr1 he1 hl1 hw1
  refine hK.out _ _ (unhide x1) (fun hHeld1 => ?_)
  clear hK K
  refine wpAnyH_ready (rs := [3]) (by kernel_rfl) (by simp) ?_
  refine AllReadyH.cons (o := { dst := some 5, op := _, type := _, pos := _, after := _, guard := _ }) rfl (fun K hK => ?_) AllReadyH.nil
  go_simp
  refine (number_any (unhide H1)).mono ?_
  rintro e w2 ⟨n1, l2, b2, rfl, in1, hr2, he2, hl2, hw2⟩
  have x2 : Hid (w2.cell? ⟨bx, 0, none⟩ = _) := he2.cell (unhide x1) (unhide HBX)
  have H2 := hide hr2
  have E2 := hide ((unhide E1).trans he2)
  have K2 := hide ((he2.block _ (hlt (unhide K1)) (unhide HRB)).trans (unhide K1))
  have L2 := hide hl2
  have W2 := hide hw2
  clear hr2 he2 hl2 hw2
  refine hK.out _ _ (unhide x2) (fun hHeld2 => ?_)
  clear hK K
  refine wpAnyH_ready (rs := [5]) (by kernel_rfl) (by simp) ?_
  refine AllReadyH.cons (o := { dst := some 7, op := _, type := _, pos := _, after := _, guard := _ }) rfl (fun K hK => ?_) AllReadyH.nil
  go_simp
  refine (number_any (unhide H2)).mono ?_
  rintro e w3 ⟨n2, l3, b3, rfl, in2, hr3, he3, hl3, hw3⟩
  have x3 : Hid (w3.cell? ⟨bx, 0, none⟩ = _) := he3.cell (unhide x2) (unhide HBX)
  have H3 := hide hr3
  have E3 := hide ((unhide E2).trans he3)
  have K3 := hide ((he3.block _ (hlt (unhide K2)) (unhide HRB)).trans (unhide K2))
  have L3 := hide hl3
  have W3 := hide hw3
  clear hr3 he3 hl3 hw3
  refine hK.out _ _ (unhide x3) (fun hHeld3 => ?_)
  clear hK K
  refine wpAnyH_ready (rs := [7]) (by kernel_rfl) (by simp) ?_
  refine AllReadyH.cons (o := { dst := some 9, op := _, type := _, pos := _, after := _, guard := _ }) rfl (fun K hK => ?_) AllReadyH.nil
  go_simp
  refine (number_any (unhide H3)).mono ?_
  rintro e w4 ⟨n3, l4, b4, rfl, in3, hr4, he4, hl4, hw4⟩
  have x4 : Hid (w4.cell? ⟨bx, 0, none⟩ = _) := he4.cell (unhide x3) (unhide HBX)
  have H4 := hide hr4
  have E4 := hide ((unhide E3).trans he4)
  have K4 := hide ((he4.block _ (hlt (unhide K3)) (unhide HRB)).trans (unhide K3))
  have L4 := hide hl4
  have W4 := hide hw4
  clear hr4 he4 hl4 hw4
  refine hK.out _ _ (unhide x4) (fun hHeld4 => ?_)
  clear hK K
  refine wpAnyH_ready (rs := [9]) (by kernel_rfl) (by simp) ?_
  refine AllReadyH.cons (o := { dst := some 11, op := _, type := _, pos := _, after := _, guard := _ }) rfl (fun K hK => ?_) AllReadyH.nil
  go_simp
  refine (truth_any (unhide H4)).mono ?_
  rintro e w5 ⟨t, l5, b5, rfl, hr5, he5, hl5, hw5⟩
  have x5 : Hid (w5.cell? ⟨bx, 0, none⟩ = _) := he5.cell (unhide x4) (unhide HBX)
  have H5 := hide hr5
  have E5 := hide ((unhide E4).trans he5)
  have K5 := hide ((he5.block _ (hlt (unhide K4)) (unhide HRB)).trans (unhide K4))
  have L5 := hide hl5
  have W5 := hide hw5
  clear hr5 he5 hl5 hw5
  have kb := unhide K5
  have z0 := hcell kb 0
  have y0 := hfroz kb 0
  have z1 := hcell kb 1
  have y1 := hfroz kb 1
  have z2 := hcell kb 2
  have y2 := hfroz kb 2
  have z3 := hcell kb 3
  have y3 := hfroz kb 3
  have z4 := hcell kb 4
  have y4 := hfroz kb 4
  clear kb y
  refine hK.out _ _ (unhide x5) (fun hHeld5 => ?_)
  clear hK K
  refine wpAnyH_take (i := 10) (oi := { dst := some 12, op := _, type := _, pos := _, after := _, guard := _ }) (v := ?_) rfl (by kernel_rfl) (by kernel_rfl) (by kernel_rfl) (fun _ _ _ h => h) (Or.inl ⟨by rfl, ?_⟩) (by assumption) ?_
  case refine_2 =>
    intro w hSw
    try dsimp only at hSw
    go_simp
    try with_reducible rfl
  simp only [Act.put, List.setIfInBounds_toArray, List.set_cons_zero, List.set_cons_succ]
  refine wpAnyH_ready (rs := [11]) (by kernel_rfl) (by simp) ?_
  refine AllReadyH.cons (o := { dst := none, op := _, type := _, pos := _, after := _, guard := _ }) rfl (fun K hK => ?_) AllReadyH.nil
  go_simp
  refine hK.out _ _ (cell_setFar (cell_setFar (cell_setFar (cell_setFar (cell_setFar (unhide x5) (unhide HBL) 0 _) (unhide HBL) 1 _) (unhide HBL) 2 _) (unhide HBL) 3 _) (unhide HBL) 4 _) (fun hHeldS => ?_)
  clear hK K
  refine wpAnyH_done (by kernel_rfl) ?_ _
  clear z0 y0
  clear z1 y1
  clear z2 y2
  clear z3 y3
  clear z4 y4
  have hfin : (((((w5.setCell ⟨w.heap.size, 0, none⟩ (.string s)).setCell ⟨w.heap.size, 1, none⟩ (.int .i64 n1)).setCell ⟨w.heap.size, 2, none⟩ (.int .i64 n2)).setCell ⟨w.heap.size, 3, none⟩ (.int .i64 n3)).setCell ⟨w.heap.size, 4, none⟩ (.bool t)).heap[w.heap.size]? = some (.cells #[.string s, .int .i64 n1, .int .i64 n2, .int .i64 n3, .bool t] 77 (0, 0)) := (hset (hset (hset (hset (hset (unhide K5) 0 (.string s)) 1 (.int .i64 n1)) 2 (.int .i64 n2)) 3 (.int .i64 n3)) 4 (.bool t))
  go_wp2_with fail
  refine bodyPost_ret (v := .agg #[.string s, .int .i64 n1, .int .i64 n2, .int .i64 n3, .bool t]) (results_cell_row Tryz.results63 _ _ w.heap.size 77 _ (0, 0) _ rfl hfin Tryz.underlying77 rfl (by kernel_rfl)) rfl ?_
  refine ⟨⟨s, n1, n2, n3, t⟩, l5, b5, rfl, ⟨in1, in2, in3⟩, ((((((unhide H5).setFar hrl 0 _).setFar hrl 1 _).setFar hrl 2 _).setFar hrl 3 _).setFar hrl 4 _), ((((((unhide E5).setNew (Nat.le_refl _) 0 _).setNew (Nat.le_refl _) 1 _).setNew (Nat.le_refl _) 2 _).setNew (Nat.le_refl _) 3 _).setNew (Nat.le_refl _) 4 _), Nat.le_trans (unhide L5) (Nat.le_trans (unhide L4) (Nat.le_trans (unhide L3) (Nat.le_trans (unhide L2) (unhide L1)))), ?_⟩
  exact ((unhide W1).pair ((unhide W2).pair ((unhide W3).pair ((unhide W4).pair (unhide W5) encN_pf in3) encN_pf in2) encN_pf in1) encT_pf trivial).map (fun x : PV => (x.name, x.slot, x.fr, x.to, x.boxed)) rfl (fun _ h => ⟨trivial, h.1, h.2.1, h.2.2, trivial⟩) (fun _ _ => rfl)
end Go.Proofs.YtkafldkhmkdafaaGreatDoor

namespace Go.Proofs.YtkafldkhmkdafaaGreatDoor
open Go.RowKit

/-- So many things were read, and lie in a row. -/
structure LInv {X : Type} (ok : X → Prop) (enc : X → List Int) (El : World → Value → List Value → List X → Prop) (E : TypeId) (K r : Nat) (l l1 : List Int) (wb1 : Bool) (w : World) (xs : List X) (v : Value) (cells : List Value) (l2 : List Int) (wb2 : Bool) (wr : World) : Prop where
  rd : RdAt wr r l2 wb2
  ext : Ext r w wr
  le : l2.length ≤ l.length
  own : wr.ownsRow w.heap.size E K v xs.length cells
  el : El wr v cells xs
  oks : ∀ x ∈ xs, ok x
  eq : wb2 = false → wb1 = false ∧ l1 = xs.flatMap enc ++ l2
  cpl : wb1 = false → ∀ (ys : List X) (l0 : List Int), (∀ y ∈ ys, ok y) → xs.length ≤ ys.length → l1 = ys.flatMap enc ++ l0 → wb2 = false ∧ l2 = (ys.drop xs.length).flatMap enc ++ l0
/-- A list was read: what it tells. -/
structure TelL {X : Type} (ok : X → Prop) (enc : X → List Int) (Q : Prop) (wb wb' : Bool) (l : List Int) : Prop where
  snd : wb' = false → wb = false ∧ Q
  cpl : wb = false → ∀ (ys : List X) (l0 : List Int), (∀ y ∈ ys, ok y) → l = encL enc ys ++ l0 → wb' = false
theorem TelL.imp {X : Type} {ok : X → Prop} {enc : X → List Int} {Q Q' : Prop} {wb wb' : Bool} {l : List Int} (h : TelL ok enc Q wb wb' l) (f : Q → Q') : TelL ok enc Q' wb wb' l := ⟨fun q => ⟨(h.snd q).1, f (h.snd q).2⟩, h.cpl⟩
/-- Where such a list stands, it is read, and what is behind it is left. -/
theorem TelL.same {X : Type} {ok : X → Prop} {enc : X → List Int} {Q : Prop} {wb wb' : Bool} {l l' : List Int} (h : TelL ok enc Q wb wb' l) (pf : Sure ok enc) (hQ : Q → ∃ xs, (∀ x ∈ xs, ok x) ∧ l = encL enc xs ++ l') (hw : wb = false) {ys : List X} {l0 : List Int} (hy : ∀ y ∈ ys, ok y) (e : l = encL enc ys ++ l0) : wb' = false ∧ l' = l0 := by
  have q := h.cpl hw ys l0 hy e
  obtain ⟨xs, hx, e2⟩ := hQ (h.snd q).2
  exact ⟨q, (encL_pf pf xs ys l' l0 hx hy (e2.symm.trans e)).2⟩
theorem flat_many {X : Type} {ok : X → Prop} {enc : X → List Int} (hpos : ∀ y, 0 < (enc y).length) : ∀ ys : List X, ys.length ≤ (ys.flatMap enc).length
  | [] => Nat.le_refl _
  | y :: ys => by
    have h1 := hpos y
    have h2 := flat_many (ok := ok) hpos ys
    simp only [List.flatMap_cons, List.length_append, List.length_cons]
    omega
/-- What a list is that was read. -/
def ListPost {X : Type} (ok : X → Prop) (enc : X → List Int) (El : World → Value → List Value → List X → Prop) (E : TypeId) (K r : Nat) (l : List Int) (wb : Bool) (w : World) (e : Ending) (w' : World) : Prop :=
  ∃ (g : Option Addr) (n cap : Nat) (l' : List Int) (wb' : Bool), e = .returned (.slice g n cap) ∧ RdAt w' r l' wb' ∧ Ext r w w' ∧ l'.length ≤ l.length ∧
    TelL ok enc (∃ xs cells, (∀ x ∈ xs, ok x) ∧ w'.ownsRow w.heap.size E K (.slice g n cap) xs.length cells ∧ El w' (.slice g n cap) cells xs ∧ xs.length ≤ 110000 ∧ l = encL enc xs ++ l') wb wb' l

theorem owns_ne {w : World} {B : Nat} {e : TypeId} {k : Nat} {v : Value} {n : Nat} {xs : List Value} (h : w.ownsRow B e k v n xs) : ∀ j, v.ownBlock = some j → B ≤ j ∧ j < w.heap.size := by
  intro j hj
  rcases h.2 with ⟨rfl, _⟩ | ⟨g, cap, cur, rfl, h2, h3, _⟩
  · simp [Value.ownBlock] at hj
  · simp only [Value.ownBlock, Option.some.injEq] at hj
    subst hj
    exact ⟨h2, hlt h3⟩
theorem owns_block {w w' : World} {B : Nat} {e : TypeId} {k : Nat} {v : Value} {n : Nat} {xs : List Value} (h : w.ownsRow B e k v n xs) (hb : ∀ j, B ≤ j → j < w.heap.size → w'.heap[j]? = w.heap[j]?) : w'.ownsRow B e k v n xs := by
  refine ⟨h.1, ?_⟩
  rcases h.2 with q | ⟨g, cap, cur, h1, h2, h3, h4⟩
  · exact Or.inl q
  · exact Or.inr ⟨g, cap, cur, h1, h2, (hb g h2 (hlt h3)).trans h3, h4⟩
theorem owns_ext {w w' : World} {B r : Nat} {e : TypeId} {k : Nat} {v : Value} {n : Nat} {xs : List Value} (h : w.ownsRow B e k v n xs) (hx : Ext r w w') (hr : r < B) : w'.ownsRow B e k v n xs :=
  owns_block h fun j hj hl => hx.block j hl (by omega)
theorem owns_form {w : World} {B : Nat} {e : TypeId} {k : Nat} {v : Value} {n : Nat} {xs : List Value} (h : w.ownsRow B e k v n xs) : ∃ g cap, v = .slice g n cap := by
  rcases h.2 with ⟨rfl, rfl⟩ | ⟨g, cap, cur, rfl, _⟩
  · exact ⟨none, 0, rfl⟩
  · exact ⟨_, cap, rfl⟩

theorem LInv.start {X : Type} {ok : X → Prop} {enc : X → List Int} {El : World → Value → List Value → List X → Prop} {E : TypeId} {K r : Nat} {l l1 : List Int} {wb1 : Bool} {w w1 : World} (h1 : RdAt w1 r l1 wb1) (he : Ext r w w1) (hl : l1.length ≤ l.length) (h0 : El w1 (.slice none 0 0) [] []) :
    LInv ok enc El E K r l l1 wb1 w [] (.slice none 0 0) [] l1 wb1 w1 :=
  ⟨h1, he, hl, ⟨by simp, Or.inl ⟨rfl, rfl⟩⟩, h0, fun _ q => (by cases q), (fun q => ⟨q, rfl⟩), fun q ys l0 _ _ e => ⟨q, by rw [e]; simp⟩⟩
/-- One thing more. -/
theorem LInv.snoc {X : Type} {ok : X → Prop} {enc : X → List Int} {El : World → Value → List Value → List X → Prop} {E : TypeId} {K r : Nat} {l l1 l2 l3 : List Int} {wb1 wb2 wb3 : Bool} {w wr w3 w5 : World} {xs : List X} {v : Value} {cells news : List Value} {x : X}
    (h : LInv ok enc El E K r l l1 wb1 w xs v cells l2 wb2 wr) (hr : r < w.heap.size) (hok : ok x) (h3 : RdAt w3 r l3 wb3) (he : Ext r wr w3) (hl : l3.length ≤ l2.length) (pf : Sure ok enc) (hw : Tel ok enc wb2 wb3 l2 x l3) {o : Obj} {g cap : Nat}
    (hown : w5.ownsRow w.heap.size E K (.slice (some ⟨g, 0, none⟩) (xs.length + 1) cap) (xs.length + 1) (cells ++ news)) (hg : (w3.alloc o).grownBy w5 v.ownBlock) (hel : El w5 (.slice (some ⟨g, 0, none⟩) (xs.length + 1) cap) (cells ++ news) (xs ++ [x])) :
    LInv ok enc El E K r l l1 wb1 w (xs ++ [x]) (.slice (some ⟨g, 0, none⟩) (xs.length + 1) cap) (cells ++ news) l3 wb3 w5 := by
  have hne := owns_ne h.own
  have hx3 : Ext r w (w3.alloc o) := (h.ext.trans he).alloc o
  refine ⟨?_, hx3.grown hg fun k hk => (hne k hk).1, Nat.le_trans hl h.le, by simpa using hown, hel, fun y hy => ?_, fun q => ?_, fun q ys l0 hy hle e => ?_⟩
  · have := h3.lt
    refine (h3.keep ((Below.refl _ _).alloc (Nat.le_refl _) o)).far fun k hk => hg.block k (by simp; omega) fun q => ?_
    have := (hne k q.symm).1
    omega
  · rcases List.mem_append.1 hy with q | q
    · exact h.oks y q
    · obtain rfl := List.mem_singleton.1 q
      exact hok
  · obtain ⟨q1, q2⟩ := hw.snd q
    obtain ⟨q3, q4⟩ := h.eq q1
    exact ⟨q3, by rw [q4, q2]; simp⟩
  · rw [List.length_append, List.length_singleton] at hle
    obtain ⟨q1, q2⟩ := h.cpl q ys l0 hy (by omega) e
    have hlt : xs.length < ys.length := by omega
    rw [List.drop_eq_getElem_cons hlt, List.flatMap_cons, List.append_assoc] at q2
    obtain ⟨q3, _, q5⟩ := hw.same pf hok q1 (hy _ (List.getElem_mem hlt)) q2
    exact ⟨q3, by rw [q5]; simp⟩
theorem LInv.done {X : Type} {ok : X → Prop} {enc : X → List Int} {El : World → Value → List Value → List X → Prop} {E : TypeId} {K r : Nat} {l l1 l2 : List Int} {wb wb1 wb2 : Bool} {w wr : World} {xs : List X} {v : Value} {cells : List Value} {n : Nat}
    (h : LInv ok enc El E K r l l1 wb1 w xs v cells l2 wb2 wr) (hn : xs.length = n) (hm : n ≤ 110000) (hw : TelN wb wb1 l n l1) (hpos : ∀ y, 0 < (enc y).length) : ListPost ok enc El E K r l wb w (.returned v) wr := by
  obtain ⟨g, cap, rfl⟩ := owns_form h.own
  refine ⟨g, _, cap, l2, wb2, rfl, h.rd, h.ext, h.le, fun q => ?_, fun q ys l0 hy e => ?_⟩
  · obtain ⟨q1, q2⟩ := h.eq q
    obtain ⟨q3, q4⟩ := hw.snd q1
    exact ⟨q3, xs, cells, h.oks, h.own, h.el, by omega, by rw [q4, q2, encL, hn]; simp⟩
  · unfold encL at e
    rw [List.append_assoc] at e
    obtain ⟨q1, q2, q3⟩ := hw.same q (by have := flat_many (ok := ok) hpos ys; rw [List.length_append]; omega) e
    exact (h.cpl q1 ys l0 hy (by omega) q3).1
theorem LInv.wrong {X : Type} {ok : X → Prop} {enc : X → List Int} {El : World → Value → List Value → List X → Prop} {E : TypeId} {K r : Nat} {l l1 l2 : List Int} {wb wb1 : Bool} {w wr : World} {xs : List X} {v : Value} {cells : List Value}
    {n : Nat} (h : LInv ok enc El E K r l l1 wb1 w xs v cells l2 true wr) (hn : xs.length ≤ n) (hw : TelN wb wb1 l n l1) (hpos : ∀ y, 0 < (enc y).length) : ListPost ok enc El E K r l wb w (.returned (.slice none 0 0)) wr :=
  ⟨none, 0, 0, l2, true, rfl, h.rd, h.ext, h.le, (fun q => by cases q), fun q ys l0 hy e => by
    unfold encL at e
    rw [List.append_assoc] at e
    obtain ⟨q1, q2, q3⟩ := hw.same q (by have := flat_many (ok := ok) hpos ys; rw [List.length_append]; omega) e
    exact (h.cpl q1 ys l0 hy (by omega) q3).1⟩

theorem encT_pos (s : ByteArray) : 0 < (encT s).length := by
  have := encN_pos s.size
  unfold encT
  rw [List.length_append]
  omega
theorem encC_pos (c : PC) : 0 < (encC c).length := by
  unfold encC
  split
  · have := encN_pos 1
    rw [List.length_append]
    omega
  · have := encN_pos 0
    rw [List.length_append]
    omega
theorem encI_pos (c : PI) : 0 < (encI c).length := by
  have := encN_pos c.op
  unfold encI
  rw [List.length_append]
  omega
theorem encH_pos (c : PH) : 0 < (encH c).length := by
  have := encN_pos c.fr
  unfold encH
  rw [List.length_append]
  omega
theorem encV_pos (c : PV) : 0 < (encV c).length := by
  have := encT_pos c.name
  unfold encV
  rw [List.length_append]
  omega
theorem encI_pf : Sure okI encI := (encN_pf.pair (encN_pf.pair encN_pf)).map (o := fun p : Int × Int × Int => I64 p.1 ∧ I64 p.2.1 ∧ I64 p.2.2) (fun x : PI => (x.op, x.a, x.b)) (fun a b _ _ e => by cases a; cases b; simp_all) (fun _ h => h) (fun _ _ => rfl)
theorem encH_pf : Sure okH encH := (encN_pf.pair (encN_pf.pair encN_pf)).map (o := fun p : Int × Int × Int => I64 p.1 ∧ I64 p.2.1 ∧ I64 p.2.2) (fun x : PH => (x.fr, x.to, x.tg)) (fun a b _ _ e => by cases a; cases b; simp_all) (fun _ h => h) (fun _ _ => rfl)
theorem encV_pf : Sure okV encV := Sure.map (o := fun p : ByteArray × Int × Int × Int × Bool => True ∧ I64 p.2.1 ∧ I64 p.2.2.1 ∧ I64 p.2.2.2.1 ∧ True) (e := fun p => encT p.1 ++ (encN p.2.1 ++ (encN p.2.2.1 ++ (encN p.2.2.2.1 ++ encB p.2.2.2.2)))) (Sure.pair (o1 := fun _ => True) encT_pf (Sure.pair (o1 := I64) encN_pf (Sure.pair (o1 := I64) encN_pf (Sure.pair (o1 := I64) (o2 := fun _ => True) encN_pf encB_pf)))) (fun x : PV => (x.name, x.slot, x.fr, x.to, x.boxed)) (fun a b _ _ e => by cases a; cases b; simp_all) (fun _ h => ⟨trivial, h.1, h.2.1, h.2.2, trivial⟩) (fun _ _ => rfl)
theorem encC_true (c : PC) (h : c.text = true) : encC c = encB true ++ encT c.s := by simp [encC, encB, h]
theorem encC_false (c : PC) (h : c.text = false) : encC c = encB false ++ encN c.n := by simp [encC, encB, h]
theorem encC_pf : Sure okC encC := fun x y l l' hx hy e => by
  cases h1 : x.text <;> cases h2 : y.text
  · rw [encC_false x h1, encC_false y h2, List.append_assoc, List.append_assoc] at e
    obtain ⟨_, e⟩ := encB_pf (ok := fun _ => True) _ _ _ _ trivial trivial e
    obtain ⟨q, e⟩ := encN_pf (ok := fun _ => True) _ _ _ _ trivial trivial e
    refine ⟨?_, e⟩
    have := hx.2.2 h1
    have := hy.2.2 h2
    cases x
    cases y
    simp_all
  · rw [encC_false x h1, encC_true y h2, List.append_assoc, List.append_assoc] at e
    obtain ⟨q, _⟩ := encB_pf (ok := fun _ => True) _ _ _ _ trivial trivial e
    cases q
  · rw [encC_true x h1, encC_false y h2, List.append_assoc, List.append_assoc] at e
    obtain ⟨q, _⟩ := encB_pf (ok := fun _ => True) _ _ _ _ trivial trivial e
    cases q
  · rw [encC_true x h1, encC_true y h2, List.append_assoc, List.append_assoc] at e
    obtain ⟨_, e⟩ := encB_pf (ok := fun _ => True) _ _ _ _ trivial trivial e
    obtain ⟨q, e⟩ := encT_pf (ok := fun _ => True) _ _ _ _ trivial trivial e
    refine ⟨?_, e⟩
    have := hx.2.1 h1
    have := hy.2.1 h2
    cases x
    cases y
    simp_all
/-- Rows without rows in them. -/
def ElF {X : Type} (K : Nat) (row : List X → Nat → Nat → Value) (_ : World) (_ : Value) (cells : List Value) (xs : List X) : Prop := Flat cells xs.length K (row xs)
theorem ElF.snoc {X : Type} {K : Nat} {row : List X → Nat → Nat → Value} {w w' : World} {v v' : Value} {cells news : List Value} {xs : List X} {x : X} (h : ElF K row w v cells xs) (hl : cells.length = xs.length * K) (hold : ∀ i, i < xs.length → row (xs ++ [x]) i = row xs i) (hn : ∀ j, j < K → news[j]? = some (row (xs ++ [x]) xs.length j)) : ElF K row w' v' (cells ++ news) (xs ++ [x]) := by
  unfold ElF
  rw [List.length_append]
  exact (Flat.turn h hold).snoc hl hn
theorem old_get {X : Type} {xs : List X} {x : X} {i : Nat} (h : i < xs.length) : (xs ++ [x])[i]? = xs[i]? := List.getElem?_append_left h
theorem new_get {X : Type} (xs : List X) (x : X) : (xs ++ [x])[xs.length]? = some x := by simp
end Go.Proofs.YtkafldkhmkdafaaGreatDoor
