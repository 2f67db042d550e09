/-
  Functions are read.
-/
import Derived.Test.YtkafldkhmkdafaaDoorM20
namespace Go.Proofs.YtkafldkhmkdafaaDoor
open Go.RowKit
attribute [local go_sem ↓] Go.wp_at_zero Go.wp_at_succ

/-- A struct at block fb that is being read; the reader's box, the result's block. -/
structure Head (r : Nat) (l : List Int) (w : World) (fb : Nat) (cs zs : Array Value) (T : TypeId) (l3 : List Int) (b3 : Bool) (wc : World) : Prop where
  rd : RdAt wc r l3 b3
  ext : Ext r w wc
  far : w.heap.size + 1 < fb
  blk : wc.heap[fb]? = some (.cells cs T (0, 0))
  box : wc.cell? ⟨w.heap.size, 0, none⟩ = some (.pointer (some ⟨r, 0, none⟩))
  res : wc.heap[w.heap.size + 1]? = some (.cells zs T (0, 0))
  le : l3.length ≤ l.length
  rlt : r < w.heap.size
/-- Behind a list, and the store of it. -/
theorem Head.put {r : Nat} {l : List Int} {w : World} {fb : Nat} {cs zs : Array Value} {T : TypeId} {l3 : List Int} {b3 : Bool} {wc : World} (h : Head r l w fb cs zs T l3 b3 wc) {w4 : World} {l4 : List Int} {b4 : Bool} (hr : RdAt w4 r l4 b4) (he : Ext r wc w4) (hl : l4.length ≤ l3.length) (i : Nat) (v : Value) :
    Head r l w fb (cs.setIfInBounds i v) zs T l4 b4 (w4.setCell ⟨fb, i, none⟩ v) := by
  have hf := h.far
  have hr0 := h.rlt
  refine ⟨hr.setFar (by omega) i v, (h.ext.trans he).setNew (by omega) i v, h.far, ?_, ?_, ?_, Nat.le_trans hl h.le, h.rlt⟩
  · exact hset ((he.block fb (hlt h.blk) (by omega)).trans h.blk) i v
  · exact cell_setFar (he.cell h.box (by show w.heap.size ≠ r; omega)) (by show w.heap.size ≠ fb; omega) i v
  · exact (hother v (by omega)).trans ((he.block _ (hlt h.res) (by omega)).trans h.res)
theorem Head.blk4 {r : Nat} {l : List Int} {w : World} {fb : Nat} {cs zs : Array Value} {T : TypeId} {l3 : List Int} {b3 : Bool} {wc : World} (h : Head r l w fb cs zs T l3 b3 wc) {w4 : World} (he : Ext r wc w4) : w4.heap[fb]? = some (.cells cs T (0, 0)) :=
  (he.block fb (hlt h.blk) (by have := h.far; have := h.rlt; omega)).trans h.blk

theorem SlOwn.mv {w w' : World} {B : Nat} {v : Value} {n k b : Nat} {R : Nat → Nat → Value} (h : SlOwn w B v n k b R) (hs : w.heap.size ≤ w'.heap.size) (hb : ∀ j, B ≤ j → j < w.heap.size → w'.heap[j]? = w.heap[j]?) : SlOwn w' B v n k b R :=
  ⟨h.1.far fun j hj => hb j (h.2 j hj).1 (h.2 j hj).2, fun j hj => ⟨(h.2 j hj).1, Nat.lt_of_lt_of_le (h.2 j hj).2 hs⟩⟩
theorem SlOwn.set {w : World} {B : Nat} {v : Value} {n k b : Nat} {R : Nat → Nat → Value} (h : SlOwn w B v n k b R) {c : Nat} (hc : c < B) (i : Nat) (u : Value) : SlOwn (w.setCell ⟨c, i, none⟩ u) B v n k b R :=
  h.mv (by simp [World.setCell]) fun j hj _ => hother u (by omega)
theorem SlOwn.less {w : World} {B B' : Nat} {v : Value} {n k b : Nat} {R : Nat → Nat → Value} (h : SlOwn w B v n k b R) (hB : B' ≤ B) : SlOwn w B' v n k b R := ⟨h.1, fun j hj => ⟨Nat.le_trans hB (h.2 j hj).1, (h.2 j hj).2⟩⟩
theorem SlOwn.of_owns {w : World} {B : Nat} {E : TypeId} {k b : Nat} {v : Value} {n : Nat} {cells : List Value} {R : Nat → Nat → Value} (h : w.ownsRow B E k v n cells) (hf : Flat cells n k R) (hb : n * b ≤ 140737488355328) : SlOwn w B v n k b R := by
  obtain ⟨g, cap, h1, h2⟩ := rows_of_owns h hf
  refine ⟨⟨g, cap, h1, hb, h2⟩, fun j hj => ?_⟩
  obtain ⟨o, n', c', rfl⟩ := hj
  rcases h.2 with ⟨q, _⟩ | ⟨g', cap', cur, q1, q2, q3, _⟩
  · cases q
  · cases q1
    exact ⟨q2, hlt q3⟩

def okF (f : PF) : Prop := I64 f.params ∧ I64 f.slots ∧ (∀ x ∈ f.code, okI x) ∧ (∀ x ∈ f.hands, okH x) ∧ ∀ x ∈ f.vars, okV x
/-- A function's rows are new. -/
def FnNew (B : Nat) (w : World) (va vb vc : Value) (f : PF) : Prop := SlOwn w B va f.code.length 3 24 (instrRow f.code) ∧ SlOwn w B vb f.hands.length 3 24 (handRow f.hands) ∧ SlOwn w B vc f.vars.length 5 48 (varRow f.vars)
def RFnGot (r : Nat) (l : List Int) (wb : Bool) (w : World) (e : Ending) (w' : World) : Prop :=
  ∃ (s : ByteArray) (n1 n2 : Int) (ga : Option Addr) (na ca : Nat) (gh : Option Addr) (nh ch : Nat) (gv : Option Addr) (nv cv : Nat) (l' : List Int) (wb' : Bool),
    e = .returned (.agg #[.string s, .int .i64 n1, .int .i64 n2, .slice ga na ca, .slice gh nh ch, .slice gv nv cv]) ∧ RdAt w' r l' wb' ∧ Ext r w w' ∧ l'.length ≤ l.length ∧
    (wb' = false → wb = false ∧ ∃ xs ys zs, okF ⟨s, n1, n2, xs, ys, zs⟩ ∧ FnNew w.heap.size w' (.slice ga na ca) (.slice gh nh ch) (.slice gv nv cv) ⟨s, n1, n2, xs, ys, zs⟩ ∧ l = encF ⟨s, n1, n2, xs, ys, zs⟩ ++ l')

set_option maxRecDepth 100000 in
set_option maxHeartbeats 8000000 in
theorem function_any {w : World} {r : Nat} {l : List Int} {wb : Bool} (h : RdAt w r l wb) :
    Calls Tryd.prog 38 #[.pointer (some ⟨r, 0, none⟩)] w fun e w' => RFnGot r l wb w e w' := by
  have hrl := h.lt
  have HRL := hide hrl
  obtain ⟨w0, hw0⟩ : ∃ w0, (w.alloc (.cells #[.pointer (some ⟨r, 0, none⟩)] 87)).alloc (.cells #[.string ⟨#[]⟩, .int .i64 0, .int .i64 0, .slice none 0 0, .slice none 0 0, .slice none 0 0] 51) = w0 := ⟨_, rfl⟩
  have hb0 : Below w.heap.size w w0 := by rw [← hw0]; exact ((Below.refl _ _).alloc (Nat.le_refl _) _).alloc (by simp) _
  have hk0 : w0.heap[w.heap.size + 1]? = some (.cells #[.string ⟨#[]⟩, .int .i64 0, .int .i64 0, .slice none 0 0, .slice none 0 0, .slice none 0 0] 51 (0, 0)) := by
    rw [← hw0]
    have := hnew (w.alloc (.cells #[.pointer (some ⟨r, 0, none⟩)] 87)) (.cells #[.string ⟨#[]⟩, .int .i64 0, .int .i64 0, .slice none 0 0, .slice none 0 0, .slice none 0 0] 51)
    simpa using this
  have hy : w0.heap[w.heap.size]? = some (.cells #[.pointer (some ⟨r, 0, none⟩)] 87 (0, 0)) := by
    rw [← hw0, Below.heap_alloc _ _ _ (by simp)]; exact hnew _ _
  have H0 : Hid (RdAt w0.drew r l wb) := h.keep hb0.drew
  have E0 : Hid (Ext r w w0.drew) := Ext.of_below hb0.drew
  have K0 : Hid (w0.drew.heap[w.heap.size + 1]? = some (.cells #[.string ⟨#[]⟩, .int .i64 0, .int .i64 0, .slice none 0 0, .slice none 0 0, .slice none 0 0] 51 (0, 0))) := hk0
  have y : w0.cell? ⟨w.heap.size, 0, none⟩ = some (.pointer (some ⟨r, 0, none⟩)) := hcell hy 0
  have x0 : Hid (w0.drew.cell? ⟨w.heap.size, 0, none⟩ = some (.pointer (some ⟨r, 0, none⟩))) := y
  have HBX := hide (show w.heap.size ≠ r by omega)
  have HRB := hide (show w.heap.size + 1 ≠ r by omega)
  clear h hb0 hk0 hy
  go_enter Tryd.func38, Tryd.ntmps38
  go_wp2_with fail
  try rw [hw0]
  clear hw0
  go_cut [3] (fun p wc => ∃ (fb : Nat) (s : ByteArray) (n1 n2 : Int) (l3 : List Int) (b3 : Bool), p = .pointer (some ⟨fb, 0, none⟩) ∧ I64 n1 ∧ I64 n2 ∧ Hid (Head r l w fb #[.string s, .int .i64 n1, .int .i64 n2, .slice none 0 0, .slice none 0 0, .slice none 0 0] #[.string ⟨#[]⟩, .int .i64 0, .int .i64 0, .slice none 0 0, .slice none 0 0, .slice none 0 0] 51 l3 b3 wc) ∧ Hid (b3 = false → wb = false ∧ l = encT s ++ (encN n1 ++ (encN n2 ++ l3))))
  case first =>
    refine wp_region_held_drew (S := (fun w' => w'.cell? ⟨w.heap.size, 0, none⟩ = some (.pointer (some ⟨r, 0, none⟩)))) (by kernel_rfl) (by go_keep) (fun hHeld => ?_)
    refine wpAnyH_take (i := 0) (oi := { dst := some 4, op := _, type := _, pos := _, after := _, guard := _ }) (v := ?_) rfl (by kernel_rfl) (by kernel_rfl) (by kernel_rfl) (fun _ _ _ h => h) (Or.inl ⟨by rfl, ?_⟩) (by assumption) ?_
    case refine_2 =>
      intro w hSw
      try dsimp only at hSw
      go_simp
      try with_reducible rfl
    simp only [Act.put, List.setIfInBounds_toArray, List.set_cons_zero, List.set_cons_succ]
    refine wpAnyH_take (i := 2) (oi := { dst := some 6, op := _, type := _, pos := _, after := _, guard := _ }) (v := ?_) rfl (by kernel_rfl) (by kernel_rfl) (by kernel_rfl) (fun _ _ _ h => h) (Or.inl ⟨by rfl, ?_⟩) (by assumption) ?_
    case refine_2 =>
      intro w hSw
      try dsimp only at hSw
      go_simp
      try with_reducible rfl
    simp only [Act.put, List.setIfInBounds_toArray, List.set_cons_zero, List.set_cons_succ]
    refine wpAnyH_take (i := 4) (oi := { dst := some 8, op := _, type := _, pos := _, after := _, guard := _ }) (v := ?_) rfl (by kernel_rfl) (by kernel_rfl) (by kernel_rfl) (fun _ _ _ h => h) (Or.inl ⟨by rfl, ?_⟩) (by assumption) ?_
    case refine_2 =>
      intro w hSw
      try dsimp only at hSw
      go_simp
      try with_reducible rfl
    simp only [Act.put, List.setIfInBounds_toArray, List.set_cons_zero, List.set_cons_succ]
    refine wpAnyH_ready (rs := [1, 7]) (by kernel_rfl) (by simp) ?_
    refine AllReadyH.cons (o := { dst := some 5, op := _, type := _, pos := _, after := _, guard := _ }) rfl (fun K hK => ?_) ?_
    · go_simp
      refine (rtext_any (unhide H0)).mono ?_
      rintro e w1 ⟨s, l1, b1, rfl, hr, he, hl1, hw1⟩
      have x1 : Hid (w1.cell? ⟨w.heap.size, 0, none⟩ = _) := he.cell (unhide x0) (unhide HBX)
      have H1 := hide hr
      have E1 := hide ((unhide E0).trans he)
      have K1 := hide ((he.block _ (hlt (unhide K0)) (unhide HRB)).trans (unhide K0))
      have L1 := hide hl1
      have W1 := hide hw1
      clear hr he hl1 hw1
      refine hK.out _ _ (unhide x1) (fun hHeld1 => ?_)
      clear hK K
      refine wpAnyH_ready (rs := [3, 7]) (by kernel_rfl) (by simp) ?_
      refine AllReadyH.cons (o := { dst := some 7, op := _, type := _, pos := _, after := _, guard := _ }) rfl (fun K hK => ?_) ?_
      · go_simp
        refine (number_any (unhide H1)).mono ?_
        rintro e w2 ⟨n1, l2, b2, rfl, in1, hr, he, hl2, hw2⟩
        have x2 : Hid (w2.cell? ⟨w.heap.size, 0, none⟩ = _) := he.cell (unhide x1) (unhide HBX)
        have H2 := hide hr
        have E2 := hide ((unhide E1).trans he)
        have K2 := hide ((he.block _ (hlt (unhide K1)) (unhide HRB)).trans (unhide K1))
        have L2 := hide hl2
        have W2 := hide hw2
        clear hr he hl2 hw2
        refine hK.out _ _ (unhide x2) (fun hHeld2 => ?_)
        clear hK K
        refine wpAnyH_ready (rs := [5, 7]) (by kernel_rfl) (by simp) ?_
        refine AllReadyH.cons (o := { dst := some 9, op := _, type := _, pos := _, after := _, guard := _ }) rfl (fun K hK => ?_) ?_
        · go_simp
          refine (number_any (unhide H2)).mono ?_
          rintro e w3 ⟨n2, l3, b3, rfl, in2, hr, he, hl3, hw3⟩
          have x3 : Hid (w3.cell? ⟨w.heap.size, 0, none⟩ = _) := he.cell (unhide x2) (unhide HBX)
          have H3 := hide hr
          have E3 := hide ((unhide E2).trans he)
          have K3 := hide ((he.block _ (hlt (unhide K2)) (unhide HRB)).trans (unhide K2))
          have L3 := hide hl3
          have W3 := hide hw3
          clear hr he hl3 hw3
          refine hK.out _ _ (unhide x3) (fun hHeld3 => ?_)
          clear hK K
          refine wpAnyH_take (i := 6) (oi := { dst := some 10, op := _, type := _, pos := _, after := _, guard := _ }) (v := ?_) rfl (by kernel_rfl) (by kernel_rfl) (by kernel_rfl) (fun _ _ _ h => h) (Or.inl ⟨by rfl, ?_⟩) (by assumption) ?_
          case refine_2 =>
            intro w hSw
            try dsimp only at hSw
            go_simp
            try with_reducible rfl
          simp only [Act.put, List.setIfInBounds_toArray, List.set_cons_zero, List.set_cons_succ]
          refine wpAnyH_ready (rs := [7]) (by kernel_rfl) (by simp) ?_
          refine AllReadyH.cons (o := { dst := some 3, op := _, type := _, pos := _, after := _, guard := _ }) rfl (fun K hK => ?_) AllReadyH.nil
          obtain ⟨w4, hwA⟩ : ∃ wA, w3.alloc (.cells #[.string ⟨#[]⟩, .int .i64 0, .int .i64 0, .slice none 0 0, .slice none 0 0, .slice none 0 0] 51) = wA := ⟨_, rfl⟩
          have hbA : Below w3.heap.size w3 w4 := by rw [← hwA]; exact (Below.refl _ _).alloc (Nat.le_refl _) _
          have F4 : Hid (w4.heap[w3.heap.size]? = some (.cells #[.string ⟨#[]⟩, .int .i64 0, .int .i64 0, .slice none 0 0, .slice none 0 0, .slice none 0 0] 51 (0, 0))) := by rw [← hwA]; exact hnew _ _
          obtain ⟨fb, hfb⟩ : ∃ fb, w3.heap.size = fb := ⟨_, rfl⟩
          have HFR := hide (show fb ≠ r by have := (unhide H3).lt; omega)
          have HFF := hide (show w.heap.size + 1 < fb by have := hlt (unhide K3); omega)
          have x4 : Hid (w4.cell? ⟨w.heap.size, 0, none⟩ = _) := cellk hbA (unhide x3) (cell_lt (unhide x3))
          have H4 := hide ((unhide H3).keep hbA)
          have E4 := hide ((unhide E3).trans (Ext.of_below hbA))
          have K4 := hide ((hbA.block _ (hlt (unhide K3))).trans (unhide K3))
          rw [hfb] at F4
          clear hbA
          go_simp
          try rw [hwA]
          try rw [hfb]
          clear hwA hfb
          refine hK.out _ _ (unhide x4) (fun hHeld4 => ?_)
          clear hK K
          have kb := unhide F4
          have z0 := hcell kb 0
          have y0 := hfroz kb 0
          have z1 := hcell kb 1
          have y1 := hfroz kb 1
          have z2 := hcell kb 2
          have y2 := hfroz kb 2
          have z3 := hcell kb 3
          have y3 := hfroz kb 3
          have z4 := hcell kb 4
          have y4 := hfroz kb 4
          have z5 := hcell kb 5
          have y5 := hfroz kb 5
          clear kb
          refine wpAnyH_ready (rs := [8]) (by kernel_rfl) (by simp) ?_
          refine AllReadyH.cons (o := { dst := none, op := _, type := _, pos := _, after := _, guard := _ }) rfl (fun K hK => ?_) AllReadyH.nil
          go_simp
          have HX := hide (cell_setFar (cell_setFar (cell_setFar (cell_setFar (cell_setFar (cell_setFar (unhide x4) (by have := unhide HFF; show w.heap.size ≠ fb; omega) 0 (.string s)) (by have := unhide HFF; show w.heap.size ≠ fb; omega) 1 (.int .i64 n1)) (by have := unhide HFF; show w.heap.size ≠ fb; omega) 2 (.int .i64 n2)) (by have := unhide HFF; show w.heap.size ≠ fb; omega) 3 (.slice none 0 0)) (by have := unhide HFF; show w.heap.size ≠ fb; omega) 4 (.slice none 0 0)) (by have := unhide HFF; show w.heap.size ≠ fb; omega) 5 (.slice none 0 0))
          refine hK.out _ _ (unhide HX) (fun hHeldS => ?_)
          clear hK K
          refine wpAnyH_done (by kernel_rfl) ?_ _
          clear z0 y0
          clear z1 y1
          clear z2 y2
          clear z3 y3
          clear z4 y4
          clear z5 y5
          have hhd : Head r l w fb #[.string s, .int .i64 n1, .int .i64 n2, .slice none 0 0, .slice none 0 0, .slice none 0 0] #[.string ⟨#[]⟩, .int .i64 0, .int .i64 0, .slice none 0 0, .slice none 0 0, .slice none 0 0] 51 l3 b3 _ := ⟨(((((((unhide H4).setFar (by have := unhide HFF; have := unhide HRL; omega) 0 (.string s)).setFar (by have := unhide HFF; have := unhide HRL; omega) 1 (.int .i64 n1)).setFar (by have := unhide HFF; have := unhide HRL; omega) 2 (.int .i64 n2)).setFar (by have := unhide HFF; have := unhide HRL; omega) 3 (.slice none 0 0)).setFar (by have := unhide HFF; have := unhide HRL; omega) 4 (.slice none 0 0)).setFar (by have := unhide HFF; have := unhide HRL; omega) 5 (.slice none 0 0)), (((((((unhide E4).setNew (by have := unhide HFF; omega) 0 (.string s)).setNew (by have := unhide HFF; omega) 1 (.int .i64 n1)).setNew (by have := unhide HFF; omega) 2 (.int .i64 n2)).setNew (by have := unhide HFF; omega) 3 (.slice none 0 0)).setNew (by have := unhide HFF; omega) 4 (.slice none 0 0)).setNew (by have := unhide HFF; omega) 5 (.slice none 0 0)), unhide HFF, (hset (hset (hset (hset (hset (hset (unhide F4) 0 (.string s)) 1 (.int .i64 n1)) 2 (.int .i64 n2)) 3 (.slice none 0 0)) 4 (.slice none 0 0)) 5 (.slice none 0 0)), unhide HX, ((hother (.slice none 0 0) (by have := unhide HFF; omega)).trans ((hother (.slice none 0 0) (by have := unhide HFF; omega)).trans ((hother (.slice none 0 0) (by have := unhide HFF; omega)).trans ((hother (.int .i64 n2) (by have := unhide HFF; omega)).trans ((hother (.int .i64 n1) (by have := unhide HFF; omega)).trans ((hother (.string s) (by have := unhide HFF; omega)).trans (unhide K4))))))), Nat.le_trans (unhide L3) (Nat.le_trans (unhide L2) (unhide L1)), unhide HRL⟩
          have HD := hide hhd
          clear hhd
          go_wp2_with fail
          go_meet
          refine ⟨fb, s, n1, n2, l3, b3, rfl, in1, in2, unhide HD, fun q => ?_⟩
          obtain ⟨q, e3⟩ := (unhide W3) q
          obtain ⟨q, e2⟩ := (unhide W2) q
          obtain ⟨q, e1⟩ := (unhide W1) q
          exact ⟨q, by rw [e1, e2, e3]⟩
        refine AllReadyH.cons (o := { dst := some 3, op := _, type := _, pos := _, after := _, guard := _ }) rfl (fun K hK => ?_) AllReadyH.nil
        obtain ⟨w3, hwA⟩ : ∃ wA, w2.alloc (.cells #[.string ⟨#[]⟩, .int .i64 0, .int .i64 0, .slice none 0 0, .slice none 0 0, .slice none 0 0] 51) = wA := ⟨_, rfl⟩
        have hbA : Below w2.heap.size w2 w3 := by rw [← hwA]; exact (Below.refl _ _).alloc (Nat.le_refl _) _
        have F3 : Hid (w3.heap[w2.heap.size]? = some (.cells #[.string ⟨#[]⟩, .int .i64 0, .int .i64 0, .slice none 0 0, .slice none 0 0, .slice none 0 0] 51 (0, 0))) := by rw [← hwA]; exact hnew _ _
        obtain ⟨fb, hfb⟩ : ∃ fb, w2.heap.size = fb := ⟨_, rfl⟩
        have HFR := hide (show fb ≠ r by have := (unhide H2).lt; omega)
        have HFF := hide (show w.heap.size + 1 < fb by have := hlt (unhide K2); omega)
        have x3 : Hid (w3.cell? ⟨w.heap.size, 0, none⟩ = _) := cellk hbA (unhide x2) (cell_lt (unhide x2))
        have H3 := hide ((unhide H2).keep hbA)
        have E3 := hide ((unhide E2).trans (Ext.of_below hbA))
        have K3 := hide ((hbA.block _ (hlt (unhide K2))).trans (unhide K2))
        rw [hfb] at F3
        clear hbA
        go_simp
        try rw [hwA]
        try rw [hfb]
        clear hwA hfb
        refine hK.out _ _ (unhide x3) (fun hHeld3 => ?_)
        clear hK K
        refine wpAnyH_ready (rs := [5]) (by kernel_rfl) (by simp) ?_
        refine AllReadyH.cons (o := { dst := some 9, op := _, type := _, pos := _, after := _, guard := _ }) rfl (fun K hK => ?_) AllReadyH.nil
        go_simp
        refine (number_any (unhide H3)).mono ?_
        rintro e w4 ⟨n2, l3, b3, rfl, in2, hr, he, hl3, hw3⟩
        have x4 : Hid (w4.cell? ⟨w.heap.size, 0, none⟩ = _) := he.cell (unhide x3) (unhide HBX)
        have H4 := hide hr
        have E4 := hide ((unhide E3).trans he)
        have K4 := hide ((he.block _ (hlt (unhide K3)) (unhide HRB)).trans (unhide K3))
        have F4 := hide ((he.block _ (hlt (unhide F3)) (unhide HFR)).trans (unhide F3))
        have L3 := hide hl3
        have W3 := hide hw3
        clear hr he hl3 hw3
        refine hK.out _ _ (unhide x4) (fun hHeld4 => ?_)
        clear hK K
        have kb := unhide F4
        have z0 := hcell kb 0
        have y0 := hfroz kb 0
        have z1 := hcell kb 1
        have y1 := hfroz kb 1
        have z2 := hcell kb 2
        have y2 := hfroz kb 2
        have z3 := hcell kb 3
        have y3 := hfroz kb 3
        have z4 := hcell kb 4
        have y4 := hfroz kb 4
        have z5 := hcell kb 5
        have y5 := hfroz kb 5
        clear kb
        refine wpAnyH_take (i := 6) (oi := { dst := some 10, op := _, type := _, pos := _, after := _, guard := _ }) (v := ?_) rfl (by kernel_rfl) (by kernel_rfl) (by kernel_rfl) (fun _ _ _ h => h) (Or.inl ⟨by rfl, ?_⟩) (by assumption) ?_
        case refine_2 =>
          intro w hSw
          try dsimp only at hSw
          go_simp
          try with_reducible rfl
        simp only [Act.put, List.setIfInBounds_toArray, List.set_cons_zero, List.set_cons_succ]
        refine wpAnyH_ready (rs := [8]) (by kernel_rfl) (by simp) ?_
        refine AllReadyH.cons (o := { dst := none, op := _, type := _, pos := _, after := _, guard := _ }) rfl (fun K hK => ?_) AllReadyH.nil
        go_simp
        have HX := hide (cell_setFar (cell_setFar (cell_setFar (cell_setFar (cell_setFar (cell_setFar (unhide x4) (by have := unhide HFF; show w.heap.size ≠ fb; omega) 0 (.string s)) (by have := unhide HFF; show w.heap.size ≠ fb; omega) 1 (.int .i64 n1)) (by have := unhide HFF; show w.heap.size ≠ fb; omega) 2 (.int .i64 n2)) (by have := unhide HFF; show w.heap.size ≠ fb; omega) 3 (.slice none 0 0)) (by have := unhide HFF; show w.heap.size ≠ fb; omega) 4 (.slice none 0 0)) (by have := unhide HFF; show w.heap.size ≠ fb; omega) 5 (.slice none 0 0))
        refine hK.out _ _ (unhide HX) (fun hHeldS => ?_)
        clear hK K
        refine wpAnyH_done (by kernel_rfl) ?_ _
        clear z0 y0
        clear z1 y1
        clear z2 y2
        clear z3 y3
        clear z4 y4
        clear z5 y5
        have hhd : Head r l w fb #[.string s, .int .i64 n1, .int .i64 n2, .slice none 0 0, .slice none 0 0, .slice none 0 0] #[.string ⟨#[]⟩, .int .i64 0, .int .i64 0, .slice none 0 0, .slice none 0 0, .slice none 0 0] 51 l3 b3 _ := ⟨(((((((unhide H4).setFar (by have := unhide HFF; have := unhide HRL; omega) 0 (.string s)).setFar (by have := unhide HFF; have := unhide HRL; omega) 1 (.int .i64 n1)).setFar (by have := unhide HFF; have := unhide HRL; omega) 2 (.int .i64 n2)).setFar (by have := unhide HFF; have := unhide HRL; omega) 3 (.slice none 0 0)).setFar (by have := unhide HFF; have := unhide HRL; omega) 4 (.slice none 0 0)).setFar (by have := unhide HFF; have := unhide HRL; omega) 5 (.slice none 0 0)), (((((((unhide E4).setNew (by have := unhide HFF; omega) 0 (.string s)).setNew (by have := unhide HFF; omega) 1 (.int .i64 n1)).setNew (by have := unhide HFF; omega) 2 (.int .i64 n2)).setNew (by have := unhide HFF; omega) 3 (.slice none 0 0)).setNew (by have := unhide HFF; omega) 4 (.slice none 0 0)).setNew (by have := unhide HFF; omega) 5 (.slice none 0 0)), unhide HFF, (hset (hset (hset (hset (hset (hset (unhide F4) 0 (.string s)) 1 (.int .i64 n1)) 2 (.int .i64 n2)) 3 (.slice none 0 0)) 4 (.slice none 0 0)) 5 (.slice none 0 0)), unhide HX, ((hother (.slice none 0 0) (by have := unhide HFF; omega)).trans ((hother (.slice none 0 0) (by have := unhide HFF; omega)).trans ((hother (.slice none 0 0) (by have := unhide HFF; omega)).trans ((hother (.int .i64 n2) (by have := unhide HFF; omega)).trans ((hother (.int .i64 n1) (by have := unhide HFF; omega)).trans ((hother (.string s) (by have := unhide HFF; omega)).trans (unhide K4))))))), Nat.le_trans (unhide L3) (Nat.le_trans (unhide L2) (unhide L1)), unhide HRL⟩
        have HD := hide hhd
        clear hhd
        go_wp2_with fail
        go_meet
        refine ⟨fb, s, n1, n2, l3, b3, rfl, in1, in2, unhide HD, fun q => ?_⟩
        obtain ⟨q, e3⟩ := (unhide W3) q
        obtain ⟨q, e2⟩ := (unhide W2) q
        obtain ⟨q, e1⟩ := (unhide W1) q
        exact ⟨q, by rw [e1, e2, e3]⟩
      refine AllReadyH.cons (o := { dst := some 3, op := _, type := _, pos := _, after := _, guard := _ }) rfl (fun K hK => ?_) AllReadyH.nil
      obtain ⟨w2, hwA⟩ : ∃ wA, w1.alloc (.cells #[.string ⟨#[]⟩, .int .i64 0, .int .i64 0, .slice none 0 0, .slice none 0 0, .slice none 0 0] 51) = wA := ⟨_, rfl⟩
      have hbA : Below w1.heap.size w1 w2 := by rw [← hwA]; exact (Below.refl _ _).alloc (Nat.le_refl _) _
      have F2 : Hid (w2.heap[w1.heap.size]? = some (.cells #[.string ⟨#[]⟩, .int .i64 0, .int .i64 0, .slice none 0 0, .slice none 0 0, .slice none 0 0] 51 (0, 0))) := by rw [← hwA]; exact hnew _ _
      obtain ⟨fb, hfb⟩ : ∃ fb, w1.heap.size = fb := ⟨_, rfl⟩
      have HFR := hide (show fb ≠ r by have := (unhide H1).lt; omega)
      have HFF := hide (show w.heap.size + 1 < fb by have := hlt (unhide K1); omega)
      have x2 : Hid (w2.cell? ⟨w.heap.size, 0, none⟩ = _) := cellk hbA (unhide x1) (cell_lt (unhide x1))
      have H2 := hide ((unhide H1).keep hbA)
      have E2 := hide ((unhide E1).trans (Ext.of_below hbA))
      have K2 := hide ((hbA.block _ (hlt (unhide K1))).trans (unhide K1))
      rw [hfb] at F2
      clear hbA
      go_simp
      try rw [hwA]
      try rw [hfb]
      clear hwA hfb
      refine hK.out _ _ (unhide x2) (fun hHeld2 => ?_)
      clear hK K
      refine wpAnyH_ready (rs := [3]) (by kernel_rfl) (by simp) ?_
      refine AllReadyH.cons (o := { dst := some 7, op := _, type := _, pos := _, after := _, guard := _ }) rfl (fun K hK => ?_) AllReadyH.nil
      go_simp
      refine (number_any (unhide H2)).mono ?_
      rintro e w3 ⟨n1, l2, b2, rfl, in1, hr, he, hl2, hw2⟩
      have x3 : Hid (w3.cell? ⟨w.heap.size, 0, none⟩ = _) := he.cell (unhide x2) (unhide HBX)
      have H3 := hide hr
      have E3 := hide ((unhide E2).trans he)
      have K3 := hide ((he.block _ (hlt (unhide K2)) (unhide HRB)).trans (unhide K2))
      have F3 := hide ((he.block _ (hlt (unhide F2)) (unhide HFR)).trans (unhide F2))
      have L2 := hide hl2
      have W2 := hide hw2
      clear hr he hl2 hw2
      refine hK.out _ _ (unhide x3) (fun hHeld3 => ?_)
      clear hK K
      refine wpAnyH_ready (rs := [5]) (by kernel_rfl) (by simp) ?_
      refine AllReadyH.cons (o := { dst := some 9, op := _, type := _, pos := _, after := _, guard := _ }) rfl (fun K hK => ?_) AllReadyH.nil
      go_simp
      refine (number_any (unhide H3)).mono ?_
      rintro e w4 ⟨n2, l3, b3, rfl, in2, hr, he, hl3, hw3⟩
      have x4 : Hid (w4.cell? ⟨w.heap.size, 0, none⟩ = _) := he.cell (unhide x3) (unhide HBX)
      have H4 := hide hr
      have E4 := hide ((unhide E3).trans he)
      have K4 := hide ((he.block _ (hlt (unhide K3)) (unhide HRB)).trans (unhide K3))
      have F4 := hide ((he.block _ (hlt (unhide F3)) (unhide HFR)).trans (unhide F3))
      have L3 := hide hl3
      have W3 := hide hw3
      clear hr he hl3 hw3
      refine hK.out _ _ (unhide x4) (fun hHeld4 => ?_)
      clear hK K
      have kb := unhide F4
      have z0 := hcell kb 0
      have y0 := hfroz kb 0
      have z1 := hcell kb 1
      have y1 := hfroz kb 1
      have z2 := hcell kb 2
      have y2 := hfroz kb 2
      have z3 := hcell kb 3
      have y3 := hfroz kb 3
      have z4 := hcell kb 4
      have y4 := hfroz kb 4
      have z5 := hcell kb 5
      have y5 := hfroz kb 5
      clear kb
      refine wpAnyH_take (i := 6) (oi := { dst := some 10, op := _, type := _, pos := _, after := _, guard := _ }) (v := ?_) rfl (by kernel_rfl) (by kernel_rfl) (by kernel_rfl) (fun _ _ _ h => h) (Or.inl ⟨by rfl, ?_⟩) (by assumption) ?_
      case refine_2 =>
        intro w hSw
        try dsimp only at hSw
        go_simp
        try with_reducible rfl
      simp only [Act.put, List.setIfInBounds_toArray, List.set_cons_zero, List.set_cons_succ]
      refine wpAnyH_ready (rs := [8]) (by kernel_rfl) (by simp) ?_
      refine AllReadyH.cons (o := { dst := none, op := _, type := _, pos := _, after := _, guard := _ }) rfl (fun K hK => ?_) AllReadyH.nil
      go_simp
      have HX := hide (cell_setFar (cell_setFar (cell_setFar (cell_setFar (cell_setFar (cell_setFar (unhide x4) (by have := unhide HFF; show w.heap.size ≠ fb; omega) 0 (.string s)) (by have := unhide HFF; show w.heap.size ≠ fb; omega) 1 (.int .i64 n1)) (by have := unhide HFF; show w.heap.size ≠ fb; omega) 2 (.int .i64 n2)) (by have := unhide HFF; show w.heap.size ≠ fb; omega) 3 (.slice none 0 0)) (by have := unhide HFF; show w.heap.size ≠ fb; omega) 4 (.slice none 0 0)) (by have := unhide HFF; show w.heap.size ≠ fb; omega) 5 (.slice none 0 0))
      refine hK.out _ _ (unhide HX) (fun hHeldS => ?_)
      clear hK K
      refine wpAnyH_done (by kernel_rfl) ?_ _
      clear z0 y0
      clear z1 y1
      clear z2 y2
      clear z3 y3
      clear z4 y4
      clear z5 y5
      have hhd : Head r l w fb #[.string s, .int .i64 n1, .int .i64 n2, .slice none 0 0, .slice none 0 0, .slice none 0 0] #[.string ⟨#[]⟩, .int .i64 0, .int .i64 0, .slice none 0 0, .slice none 0 0, .slice none 0 0] 51 l3 b3 _ := ⟨(((((((unhide H4).setFar (by have := unhide HFF; have := unhide HRL; omega) 0 (.string s)).setFar (by have := unhide HFF; have := unhide HRL; omega) 1 (.int .i64 n1)).setFar (by have := unhide HFF; have := unhide HRL; omega) 2 (.int .i64 n2)).setFar (by have := unhide HFF; have := unhide HRL; omega) 3 (.slice none 0 0)).setFar (by have := unhide HFF; have := unhide HRL; omega) 4 (.slice none 0 0)).setFar (by have := unhide HFF; have := unhide HRL; omega) 5 (.slice none 0 0)), (((((((unhide E4).setNew (by have := unhide HFF; omega) 0 (.string s)).setNew (by have := unhide HFF; omega) 1 (.int .i64 n1)).setNew (by have := unhide HFF; omega) 2 (.int .i64 n2)).setNew (by have := unhide HFF; omega) 3 (.slice none 0 0)).setNew (by have := unhide HFF; omega) 4 (.slice none 0 0)).setNew (by have := unhide HFF; omega) 5 (.slice none 0 0)), unhide HFF, (hset (hset (hset (hset (hset (hset (unhide F4) 0 (.string s)) 1 (.int .i64 n1)) 2 (.int .i64 n2)) 3 (.slice none 0 0)) 4 (.slice none 0 0)) 5 (.slice none 0 0)), unhide HX, ((hother (.slice none 0 0) (by have := unhide HFF; omega)).trans ((hother (.slice none 0 0) (by have := unhide HFF; omega)).trans ((hother (.slice none 0 0) (by have := unhide HFF; omega)).trans ((hother (.int .i64 n2) (by have := unhide HFF; omega)).trans ((hother (.int .i64 n1) (by have := unhide HFF; omega)).trans ((hother (.string s) (by have := unhide HFF; omega)).trans (unhide K4))))))), Nat.le_trans (unhide L3) (Nat.le_trans (unhide L2) (unhide L1)), unhide HRL⟩
      have HD := hide hhd
      clear hhd
      go_wp2_with fail
      go_meet
      refine ⟨fb, s, n1, n2, l3, b3, rfl, in1, in2, unhide HD, fun q => ?_⟩
      obtain ⟨q, e3⟩ := (unhide W3) q
      obtain ⟨q, e2⟩ := (unhide W2) q
      obtain ⟨q, e1⟩ := (unhide W1) q
      exact ⟨q, by rw [e1, e2, e3]⟩
    refine AllReadyH.cons (o := { dst := some 3, op := _, type := _, pos := _, after := _, guard := _ }) rfl (fun K hK => ?_) AllReadyH.nil
    obtain ⟨w1, hwA⟩ : ∃ wA, w0.drew.alloc (.cells #[.string ⟨#[]⟩, .int .i64 0, .int .i64 0, .slice none 0 0, .slice none 0 0, .slice none 0 0] 51) = wA := ⟨_, rfl⟩
    have hbA : Below w0.drew.heap.size w0.drew w1 := by rw [← hwA]; exact (Below.refl _ _).alloc (Nat.le_refl _) _
    have F1 : Hid (w1.heap[w0.drew.heap.size]? = some (.cells #[.string ⟨#[]⟩, .int .i64 0, .int .i64 0, .slice none 0 0, .slice none 0 0, .slice none 0 0] 51 (0, 0))) := by rw [← hwA]; exact hnew _ _
    obtain ⟨fb, hfb⟩ : ∃ fb, w0.drew.heap.size = fb := ⟨_, rfl⟩
    have HFR := hide (show fb ≠ r by have := (unhide H0).lt; omega)
    have HFF := hide (show w.heap.size + 1 < fb by have := hlt (unhide K0); omega)
    have x1 : Hid (w1.cell? ⟨w.heap.size, 0, none⟩ = _) := cellk hbA (unhide x0) (cell_lt (unhide x0))
    have H1 := hide ((unhide H0).keep hbA)
    have E1 := hide ((unhide E0).trans (Ext.of_below hbA))
    have K1 := hide ((hbA.block _ (hlt (unhide K0))).trans (unhide K0))
    rw [hfb] at F1
    clear hbA
    go_simp
    try rw [hwA]
    try rw [hfb]
    clear hwA hfb
    refine hK.out _ _ (unhide x1) (fun hHeld1 => ?_)
    clear hK K
    refine wpAnyH_ready (rs := [1]) (by kernel_rfl) (by simp) ?_
    refine AllReadyH.cons (o := { dst := some 5, op := _, type := _, pos := _, after := _, guard := _ }) rfl (fun K hK => ?_) AllReadyH.nil
    go_simp
    refine (rtext_any (unhide H1)).mono ?_
    rintro e w2 ⟨s, l1, b1, rfl, hr, he, hl1, hw1⟩
    have x2 : Hid (w2.cell? ⟨w.heap.size, 0, none⟩ = _) := he.cell (unhide x1) (unhide HBX)
    have H2 := hide hr
    have E2 := hide ((unhide E1).trans he)
    have K2 := hide ((he.block _ (hlt (unhide K1)) (unhide HRB)).trans (unhide K1))
    have F2 := hide ((he.block _ (hlt (unhide F1)) (unhide HFR)).trans (unhide F1))
    have L1 := hide hl1
    have W1 := hide hw1
    clear hr he hl1 hw1
    refine hK.out _ _ (unhide x2) (fun hHeld2 => ?_)
    clear hK K
    refine wpAnyH_ready (rs := [3]) (by kernel_rfl) (by simp) ?_
    refine AllReadyH.cons (o := { dst := some 7, op := _, type := _, pos := _, after := _, guard := _ }) rfl (fun K hK => ?_) AllReadyH.nil
    go_simp
    refine (number_any (unhide H2)).mono ?_
    rintro e w3 ⟨n1, l2, b2, rfl, in1, hr, he, hl2, hw2⟩
    have x3 : Hid (w3.cell? ⟨w.heap.size, 0, none⟩ = _) := he.cell (unhide x2) (unhide HBX)
    have H3 := hide hr
    have E3 := hide ((unhide E2).trans he)
    have K3 := hide ((he.block _ (hlt (unhide K2)) (unhide HRB)).trans (unhide K2))
    have F3 := hide ((he.block _ (hlt (unhide F2)) (unhide HFR)).trans (unhide F2))
    have L2 := hide hl2
    have W2 := hide hw2
    clear hr he hl2 hw2
    refine hK.out _ _ (unhide x3) (fun hHeld3 => ?_)
    clear hK K
    refine wpAnyH_ready (rs := [5]) (by kernel_rfl) (by simp) ?_
    refine AllReadyH.cons (o := { dst := some 9, op := _, type := _, pos := _, after := _, guard := _ }) rfl (fun K hK => ?_) AllReadyH.nil
    go_simp
    refine (number_any (unhide H3)).mono ?_
    rintro e w4 ⟨n2, l3, b3, rfl, in2, hr, he, hl3, hw3⟩
    have x4 : Hid (w4.cell? ⟨w.heap.size, 0, none⟩ = _) := he.cell (unhide x3) (unhide HBX)
    have H4 := hide hr
    have E4 := hide ((unhide E3).trans he)
    have K4 := hide ((he.block _ (hlt (unhide K3)) (unhide HRB)).trans (unhide K3))
    have F4 := hide ((he.block _ (hlt (unhide F3)) (unhide HFR)).trans (unhide F3))
    have L3 := hide hl3
    have W3 := hide hw3
    clear hr he hl3 hw3
    refine hK.out _ _ (unhide x4) (fun hHeld4 => ?_)
    clear hK K
    have kb := unhide F4
    have z0 := hcell kb 0
    have y0 := hfroz kb 0
    have z1 := hcell kb 1
    have y1 := hfroz kb 1
    have z2 := hcell kb 2
    have y2 := hfroz kb 2
    have z3 := hcell kb 3
    have y3 := hfroz kb 3
    have z4 := hcell kb 4
    have y4 := hfroz kb 4
    have z5 := hcell kb 5
    have y5 := hfroz kb 5
    clear kb
    refine wpAnyH_take (i := 6) (oi := { dst := some 10, op := _, type := _, pos := _, after := _, guard := _ }) (v := ?_) rfl (by kernel_rfl) (by kernel_rfl) (by kernel_rfl) (fun _ _ _ h => h) (Or.inl ⟨by rfl, ?_⟩) (by assumption) ?_
    case refine_2 =>
      intro w hSw
      try dsimp only at hSw
      go_simp
      try with_reducible rfl
    simp only [Act.put, List.setIfInBounds_toArray, List.set_cons_zero, List.set_cons_succ]
    refine wpAnyH_ready (rs := [8]) (by kernel_rfl) (by simp) ?_
    refine AllReadyH.cons (o := { dst := none, op := _, type := _, pos := _, after := _, guard := _ }) rfl (fun K hK => ?_) AllReadyH.nil
    go_simp
    have HX := hide (cell_setFar (cell_setFar (cell_setFar (cell_setFar (cell_setFar (cell_setFar (unhide x4) (by have := unhide HFF; show w.heap.size ≠ fb; omega) 0 (.string s)) (by have := unhide HFF; show w.heap.size ≠ fb; omega) 1 (.int .i64 n1)) (by have := unhide HFF; show w.heap.size ≠ fb; omega) 2 (.int .i64 n2)) (by have := unhide HFF; show w.heap.size ≠ fb; omega) 3 (.slice none 0 0)) (by have := unhide HFF; show w.heap.size ≠ fb; omega) 4 (.slice none 0 0)) (by have := unhide HFF; show w.heap.size ≠ fb; omega) 5 (.slice none 0 0))
    refine hK.out _ _ (unhide HX) (fun hHeldS => ?_)
    clear hK K
    refine wpAnyH_done (by kernel_rfl) ?_ _
    clear z0 y0
    clear z1 y1
    clear z2 y2
    clear z3 y3
    clear z4 y4
    clear z5 y5
    have hhd : Head r l w fb #[.string s, .int .i64 n1, .int .i64 n2, .slice none 0 0, .slice none 0 0, .slice none 0 0] #[.string ⟨#[]⟩, .int .i64 0, .int .i64 0, .slice none 0 0, .slice none 0 0, .slice none 0 0] 51 l3 b3 _ := ⟨(((((((unhide H4).setFar (by have := unhide HFF; have := unhide HRL; omega) 0 (.string s)).setFar (by have := unhide HFF; have := unhide HRL; omega) 1 (.int .i64 n1)).setFar (by have := unhide HFF; have := unhide HRL; omega) 2 (.int .i64 n2)).setFar (by have := unhide HFF; have := unhide HRL; omega) 3 (.slice none 0 0)).setFar (by have := unhide HFF; have := unhide HRL; omega) 4 (.slice none 0 0)).setFar (by have := unhide HFF; have := unhide HRL; omega) 5 (.slice none 0 0)), (((((((unhide E4).setNew (by have := unhide HFF; omega) 0 (.string s)).setNew (by have := unhide HFF; omega) 1 (.int .i64 n1)).setNew (by have := unhide HFF; omega) 2 (.int .i64 n2)).setNew (by have := unhide HFF; omega) 3 (.slice none 0 0)).setNew (by have := unhide HFF; omega) 4 (.slice none 0 0)).setNew (by have := unhide HFF; omega) 5 (.slice none 0 0)), unhide HFF, (hset (hset (hset (hset (hset (hset (unhide F4) 0 (.string s)) 1 (.int .i64 n1)) 2 (.int .i64 n2)) 3 (.slice none 0 0)) 4 (.slice none 0 0)) 5 (.slice none 0 0)), unhide HX, ((hother (.slice none 0 0) (by have := unhide HFF; omega)).trans ((hother (.slice none 0 0) (by have := unhide HFF; omega)).trans ((hother (.slice none 0 0) (by have := unhide HFF; omega)).trans ((hother (.int .i64 n2) (by have := unhide HFF; omega)).trans ((hother (.int .i64 n1) (by have := unhide HFF; omega)).trans ((hother (.string s) (by have := unhide HFF; omega)).trans (unhide K4))))))), Nat.le_trans (unhide L3) (Nat.le_trans (unhide L2) (unhide L1)), unhide HRL⟩
    have HD := hide hhd
    clear hhd
    go_wp2_with fail
    go_meet
    refine ⟨fb, s, n1, n2, l3, b3, rfl, in1, in2, unhide HD, fun q => ?_⟩
    obtain ⟨q, e3⟩ := (unhide W3) q
    obtain ⟨q, e2⟩ := (unhide W2) q
    obtain ⟨q, e1⟩ := (unhide W1) q
    exact ⟨q, by rw [e1, e2, e3]⟩
  obtain ⟨fb, s, n1, n2, l3, b3, rfl, in1, in2, HD, HW⟩ := hcut
  have HIN := hide (show I64 n1 ∧ I64 n2 from ⟨in1, in2⟩)
  have hbx := (unhide HD).box
  clear y in1 in2
  go_wp2_with fail
  refine (listI (unhide HD).rd (unhide HD).box (by have := unhide HRL; omega)).mono ?_
  rintro e u1 ⟨ga, na, ca, m1, d1, rfl, hr, he, hl, hw⟩
  have kb := (unhide HD).blk4 he
  have z1 := hcell kb 3
  have y1 := hfroz kb 3
  have HD1 := hide ((unhide HD).put hr he hl 3 (.slice ga na ca))
  have HW1 := hide hw
  have HE1 := hide he
  have hbx1 := (unhide HD1).box
  obtain ⟨v1, hv1⟩ : ∃ v1, u1.setCell ⟨fb, 3, none⟩ (.slice ga na ca) = v1 := ⟨_, rfl⟩
  rw [hv1] at HD1 hbx1
  have HV1 := hide hv1
  clear hr he hl hw kb
  go_wp2_with fail
  refine (listH (unhide HD1).rd (unhide HD1).box (by have := unhide HRL; omega)).mono ?_
  rintro e u2 ⟨gh, nh, ch, m2, d2, rfl, hr, he, hl, hw⟩
  have kb := (unhide HD1).blk4 he
  have z2 := hcell kb 4
  have y2 := hfroz kb 4
  have HD2 := hide ((unhide HD1).put hr he hl 4 (.slice gh nh ch))
  have HW2 := hide hw
  have HE2 := hide he
  have hbx2 := (unhide HD2).box
  obtain ⟨v2, hv2⟩ : ∃ v2, u2.setCell ⟨fb, 4, none⟩ (.slice gh nh ch) = v2 := ⟨_, rfl⟩
  rw [hv2] at HD2 hbx2
  have HV2 := hide hv2
  clear hr he hl hw kb
  go_wp2_with fail
  refine (listV (unhide HD2).rd (unhide HD2).box (by have := unhide HRL; omega)).mono ?_
  rintro e u3 ⟨gv, nv, cv, m3, d3, rfl, hr, he, hl, hw⟩
  have kb := (unhide HD2).blk4 he
  have z3 := hcell kb 5
  have y3 := hfroz kb 5
  have HD3 := hide ((unhide HD2).put hr he hl 5 (.slice gv nv cv))
  have HW3 := hide hw
  have HE3 := hide he
  have hbx3 := (unhide HD3).box
  obtain ⟨v3, hv3⟩ : ∃ v3, u3.setCell ⟨fb, 5, none⟩ (.slice gv nv cv) = v3 := ⟨_, rfl⟩
  rw [hv3] at HD3 hbx3
  have HV3 := hide hv3
  clear hr he hl hw kb
  have kb := (unhide HD3).blk
  have p0 : v3.cell? ⟨fb, 0, none⟩ = some (.string s) := hcell kb 0
  have p1 : v3.cell? ⟨fb, 1, none⟩ = some (.int .i64 n1) := hcell kb 1
  have p2 : v3.cell? ⟨fb, 2, none⟩ = some (.int .i64 n2) := hcell kb 2
  have p3 : v3.cell? ⟨fb, 3, none⟩ = some (.slice ga na ca) := hcell kb 3
  have p4 : v3.cell? ⟨fb, 4, none⟩ = some (.slice gh nh ch) := hcell kb 4
  have p5 : v3.cell? ⟨fb, 5, none⟩ = some (.slice gv nv cv) := hcell kb 5
  have kr := (unhide HD3).res
  have q0 := hcell kr 0
  have f0 := hfroz kr 0
  have q1 := hcell kr 1
  have f1 := hfroz kr 1
  have q2 := hcell kr 2
  have f2 := hfroz kr 2
  have q3 := hcell kr 3
  have f3 := hfroz kr 3
  have q4 := hcell kr 4
  have f4 := hfroz kr 4
  have q5 := hcell kr 5
  have f5 := hfroz kr 5
  clear kb kr hbx hbx1 hbx2 hbx3
  go_wp2_with fail
  have hfin : ((((((v3.setCell ⟨w.heap.size + 1, 0, none⟩ (.string s)).setCell ⟨w.heap.size + 1, 1, none⟩ (.int .i64 n1)).setCell ⟨w.heap.size + 1, 2, none⟩ (.int .i64 n2)).setCell ⟨w.heap.size + 1, 3, none⟩ (.slice ga na ca)).setCell ⟨w.heap.size + 1, 4, none⟩ (.slice gh nh ch)).setCell ⟨w.heap.size + 1, 5, none⟩ (.slice gv nv cv)).heap[w.heap.size + 1]? = some (.cells #[.string s, .int .i64 n1, .int .i64 n2, .slice ga na ca, .slice gh nh ch, .slice gv nv cv] 51 (0, 0)) := (hset (hset (hset (hset (hset (hset (unhide HD3).res 0 (.string s)) 1 (.int .i64 n1)) 2 (.int .i64 n2)) 3 (.slice ga na ca)) 4 (.slice gh nh ch)) 5 (.slice gv nv cv))
  refine bodyPost_ret (v := .agg #[.string s, .int .i64 n1, .int .i64 n2, .slice ga na ca, .slice gh nh ch, .slice gv nv cv]) (results_cell_row Tryd.results38 _ _ (w.heap.size + 1) 51 _ (0, 0) _ rfl hfin Tryd.underlying51 rfl (by kernel_rfl)) rfl ?_
  refine ⟨s, n1, n2, ga, na, ca, gh, nh, ch, gv, nv, cv, m3, d3, rfl, (((((((unhide HD3).rd.setFar (by have := unhide HRL; omega) 0 (.string s)).setFar (by have := unhide HRL; omega) 1 (.int .i64 n1)).setFar (by have := unhide HRL; omega) 2 (.int .i64 n2)).setFar (by have := unhide HRL; omega) 3 (.slice ga na ca)).setFar (by have := unhide HRL; omega) 4 (.slice gh nh ch)).setFar (by have := unhide HRL; omega) 5 (.slice gv nv cv)), (((((((unhide HD3).ext.setNew (by omega) 0 (.string s)).setNew (by omega) 1 (.int .i64 n1)).setNew (by omega) 2 (.int .i64 n2)).setNew (by omega) 3 (.slice ga na ca)).setNew (by omega) 4 (.slice gh nh ch)).setNew (by omega) 5 (.slice gv nv cv)), (unhide HD3).le, fun q => ?_⟩
  obtain ⟨q, zs, cz, oz, wz, ez, lz, eqz⟩ := (unhide HW3) q
  obtain ⟨q, ys, cy, oy, wy, ey, ly, eqy⟩ := (unhide HW2) q
  obtain ⟨q, xs, cx, ox, wx, ex, lx, eqx⟩ := (unhide HW1) q
  obtain ⟨q, e0⟩ := (unhide HW) q
  have hr := unhide HRL
  have hf1 := hlt (unhide HD).blk
  have hf2 := hlt (unhide HD1).blk
  have hf3 := hlt (unhide HD2).blk
  have hw1 := (unhide HD).ext.size
  have hw2 := (unhide HD1).ext.size
  have hw3 := (unhide HD2).ext.size
  have hff := (unhide HD).far
  obtain rfl := unhide HV1
  obtain rfl := unhide HV2
  obtain rfl := unhide HV3
  have tail : ∀ {B : Nat} {v : Value} {n k b : Nat} {R : Nat → Nat → Value}, w.heap.size + 1 < B → SlOwn (u3.setCell ⟨fb, 5, none⟩ (.slice gv nv cv)) B v n k b R → SlOwn (((((((u3.setCell ⟨fb, 5, none⟩ (.slice gv nv cv)).setCell ⟨w.heap.size + 1, 0, none⟩ (.string s)).setCell ⟨w.heap.size + 1, 1, none⟩ (.int .i64 n1)).setCell ⟨w.heap.size + 1, 2, none⟩ (.int .i64 n2)).setCell ⟨w.heap.size + 1, 3, none⟩ (.slice ga na ca)).setCell ⟨w.heap.size + 1, 4, none⟩ (.slice gh nh ch)).setCell ⟨w.heap.size + 1, 5, none⟩ (.slice gv nv cv)) w.heap.size v n k b R := fun hB h =>
    ((((((h.set hB 0 (.string s)).set hB 1 (.int .i64 n1)).set hB 2 (.int .i64 n2)).set hB 3 (.slice ga na ca)).set hB 4 (.slice gh nh ch)).set hB 5 (.slice gv nv cv)).less (by omega)
  refine ⟨q, xs, ys, zs, ⟨(unhide HIN).1, (unhide HIN).2, ox, oy, oz⟩, ⟨tail (B := wc.heap.size) (by omega) ?_, tail (B := (u1.setCell ⟨fb, 3, none⟩ (.slice ga na ca)).heap.size) (by omega) ?_, tail (B := (u2.setCell ⟨fb, 4, none⟩ (.slice gh nh ch)).heap.size) (by omega) ?_⟩, ?_⟩
  · exact (((((SlOwn.of_owns wx ex (by show xs.length * 24 ≤ _; omega)).set hf1 3 _).ext (unhide HE2) (by omega)).set hf1 4 _).ext (unhide HE3) (by omega)).set hf1 5 _
  · exact (((SlOwn.of_owns wy ey (by show ys.length * 24 ≤ _; omega)).set hf2 4 _).ext (unhide HE3) (by omega)).set hf2 5 _
  · exact (SlOwn.of_owns wz ez (by show zs.length * 48 ≤ _; omega)).set hf3 5 _
  · rw [e0, eqx, eqy, eqz]
    simp [encF]
end Go.Proofs.YtkafldkhmkdafaaDoor
