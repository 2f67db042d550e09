/-
  Classes are read.
  Lists of classes are read.
-/
import Derived.Test.YtkafldkhmkdafaaGreatDoorM23
namespace Go.Proofs.YtkafldkhmkdafaaGreatDoor
open Go.RowKit
attribute [local go_sem ↓] Go.wp_at_zero Go.wp_at_succ

def okK (c : PK) : Prop := I64 c.above ∧ (∀ m ∈ c.meths, I64 m) ∧ c.names.length = c.meths.length
def okT2 (p : ByteArray × Int) : Prop := True ∧ I64 p.2
def encT2 (p : ByteArray × Int) : List Int := encT p.1 ++ encN p.2
theorem encT2_pf : Sure okT2 encT2 := Sure.pair (o1 := fun _ => True) (o2 := I64) encT_pf encN_pf
theorem encK_names (c : PK) (h : c.names.length = c.meths.length) : encN c.names.length ++ (c.names.zip c.meths).flatMap encP = encL encP (c.names.zip c.meths) := by
  unfold encL
  rw [List.length_zip, ← h, Nat.min_self]
theorem okK.zip {c : PK} (h : okK c) : ∀ p ∈ c.names.zip c.meths, okP p := fun p hp => h.2.1 _ (List.of_mem_zip (a := p.1) (b := p.2) hp).2
theorem telK_cpl {wb b3 d1 d2 : Bool} {l l3 m1 : List Int} {s : ByteArray} {n1 : Int} {Q1 Q2 : Prop} (h0 : Tel okT2 encT2 wb b3 l (s, n1) l3) (hin : I64 n1) (h1 : TelL okS encT Q1 b3 d1 l3) (q1 : Q1 → ∃ xs, (∀ x ∈ xs, okS x) ∧ l3 = encL encT xs ++ m1)
    (h2 : TelL okP encP Q2 d1 d2 m1) : wb = false → ∀ (c : PK) (l0 : List Int), okK c → l = encK c ++ l0 → d2 = false := fun q c l0 hc e => by
  have e' : l = encT2 (c.name, c.above) ++ (encL encT c.fields ++ (encL encP (c.names.zip c.meths) ++ l0)) := by
    rw [e, ← encK_names c hc.2.2]
    simp only [encK, encT2, List.append_assoc]
  obtain ⟨r0, _, r2⟩ := h0.same encT2_pf ⟨trivial, hin⟩ q ⟨trivial, hc.1⟩ e'
  obtain ⟨r3, r4⟩ := h1.same encT_pf q1 r0 (fun _ _ => trivial) r2
  exact h2.cpl r3 _ _ hc.zip r4
theorem encK_pf : Sure okK encK := fun x y l l' hx hy e => by
  unfold encK at e
  rw [encK_names x hx.2.2, encK_names y hy.2.2] at e
  simp only [List.append_assoc] at e
  obtain ⟨a1, e⟩ := encT_pf (ok := fun _ => True) _ _ _ _ trivial trivial e
  obtain ⟨a2, e⟩ := encN_pf (ok := fun _ => True) _ _ _ _ trivial trivial e
  obtain ⟨a3, e⟩ := encL_pf (encT_pf (ok := fun _ => True)) _ _ _ _ (fun _ _ => trivial) (fun _ _ => trivial) e
  obtain ⟨a4, e⟩ := encL_pf encP_pf _ _ _ _ hx.zip hy.zip e
  refine ⟨?_, e⟩
  have b1 := congrArg (List.map (·.1)) a4
  have b2 := congrArg (List.map (·.2)) a4
  rw [List.map_fst_zip (by have := hx.2.2; omega), List.map_fst_zip (by have := hy.2.2; omega)] at b1
  rw [List.map_snd_zip (by have := hx.2.2; omega), List.map_snd_zip (by have := hy.2.2; omega)] at b2
  cases x
  cases y
  simp_all
theorem encK_pos (c : PK) : 0 < (encK c).length := by
  have := encT_pos c.name
  unfold encK
  rw [List.length_append]
  omega
def KdNew (B : Nat) (w : World) (v2 v3 v4 : Value) (c : PK) : Prop := SlOwn w B v2 c.fields.length 1 16 (strRow c.fields) ∧ SlOwn w B v3 c.names.length 1 16 (strRow c.names) ∧ SlOwn w B v4 c.meths.length 1 8 (intRow c.meths)
def KdGot (r : Nat) (l : List Int) (wb : Bool) (w : World) (e : Ending) (w' : World) : Prop :=
  ∃ (s : ByteArray) (n1 : Int) (ga : Option Addr) (na ca : Nat) (gh : Option Addr) (nh ch : Nat) (gv : Option Addr) (nv cv : Nat) (l' : List Int) (wb' : Bool),
    e = .returned (.agg #[.string s, .int .i64 n1, .slice ga na ca, .slice gh nh ch, .slice gv nv cv]) ∧ RdAt w' r l' wb' ∧ Ext r w w' ∧ l'.length ≤ l.length ∧
    TelQ okK encK (∃ fs ns ms, okK ⟨s, n1, fs, ns, ms⟩ ∧ KdNew w.heap.size w' (.slice ga na ca) (.slice gh nh ch) (.slice gv nv cv) ⟨s, n1, fs, ns, ms⟩ ∧ l = encK ⟨s, n1, fs, ns, ms⟩ ++ l') wb wb' l
theorem Flat.ints (ms : List Int) : Flat (ms.map iv) ms.length 1 (intRow ms) := fun i j hi hj => by
  have : j = 0 := by omega
  subst this
  unfold intRow
  simp [hi, iv]
theorem Ext.frb {r cb : Nat} {a w w' : World} (h : Ext r a w) (hf : FrB r cb w w') (hc : a.heap.size ≤ cb) : Ext r a w' :=
  ⟨hf.os.trans h.os, hf.tape.trans h.tape, hf.output.trans h.output, Nat.le_trans h.size hf.size, fun k hk hr => (hf.block k (Nat.lt_of_lt_of_le hk h.size) hr (by omega)).trans (h.block k hk hr)⟩
theorem Head.nm {r : Nat} {l : List Int} {w : World} {fb : Nat} {c0 c1 c2 c3 : Value} {zs : Array Value} {l3 : List Int} {b3 : Bool} {wc : World} (h : Head r l w fb #[c0, c1, c2, c3, .slice none 0 0] zs 38 l3 b3 wc) : Nm wc.heap.size r w.heap.size fb c0 c1 c2 c3 l3 b3 [] wc (.slice none 0 0) := by
  have h1 := h.far
  have h2 := h.rlt
  have h3 := h.ext.size
  have h4 := hlt h.blk
  exact ⟨h.rd, h.box, h.blk, ⟨by simp, Or.inl ⟨rfl, rfl⟩⟩, by omega, by omega, by omega, by omega, by omega, by omega, Nat.le_refl _⟩

set_option maxRecDepth 100000 in
set_option maxHeartbeats 8000000 in
theorem rclass_any {w : World} {r : Nat} {l : List Int} {wb : Bool} (h : RdAt w r l wb) :
    Calls Tryz.prog 45 #[.pointer (some ⟨r, 0, none⟩)] w fun e w' => KdGot r l wb w e w' := by
  have hrl := h.lt
  have HRL := hide hrl
  obtain ⟨w0, hw0⟩ : ∃ w0, (w.alloc (.cells #[.pointer (some ⟨r, 0, none⟩)] 95)).alloc (.cells #[.string ⟨#[]⟩, .int .i64 0, .slice none 0 0, .slice none 0 0, .slice none 0 0] 38) = w0 := ⟨_, rfl⟩
  have hb0 : Below w.heap.size w w0 := by rw [← hw0]; exact ((Below.refl _ _).alloc (Nat.le_refl _) _).alloc (by simp) _
  have hk0 : w0.heap[w.heap.size + 1]? = some (.cells #[.string ⟨#[]⟩, .int .i64 0, .slice none 0 0, .slice none 0 0, .slice none 0 0] 38 (0, 0)) := by
    rw [← hw0]
    have := hnew (w.alloc (.cells #[.pointer (some ⟨r, 0, none⟩)] 95)) (.cells #[.string ⟨#[]⟩, .int .i64 0, .slice none 0 0, .slice none 0 0, .slice none 0 0] 38)
    simpa using this
  have hy : w0.heap[w.heap.size]? = some (.cells #[.pointer (some ⟨r, 0, none⟩)] 95 (0, 0)) := by
    rw [← hw0, Below.heap_alloc _ _ _ (by simp)]; exact hnew _ _
  have H0 : Hid (RdAt w0.drew r l wb) := h.keep hb0.drew
  have E0 : Hid (Ext r w w0.drew) := Ext.of_below hb0.drew
  have K0 : Hid (w0.drew.heap[w.heap.size + 1]? = some (.cells #[.string ⟨#[]⟩, .int .i64 0, .slice none 0 0, .slice none 0 0, .slice none 0 0] 38 (0, 0))) := hk0
  have y : w0.cell? ⟨w.heap.size, 0, none⟩ = some (.pointer (some ⟨r, 0, none⟩)) := hcell hy 0
  have x0 : Hid (w0.drew.cell? ⟨w.heap.size, 0, none⟩ = some (.pointer (some ⟨r, 0, none⟩))) := y
  have HBX := hide (show w.heap.size ≠ r by omega)
  have HRB := hide (show w.heap.size + 1 ≠ r by omega)
  clear h hb0 hk0 hy
  go_enter Tryz.func45, Tryz.ntmps45
  go_wp2_with fail
  try rw [hw0]
  clear hw0
  go_cut [3] (fun p wc => ∃ (fb : Nat) (s : ByteArray) (n1 : Int) (l3 : List Int) (b3 : Bool), p = .pointer (some ⟨fb, 0, none⟩) ∧ I64 n1 ∧ Hid (Head r l w fb #[.string s, .int .i64 n1, .slice none 0 0, .slice none 0 0, .slice none 0 0] #[.string ⟨#[]⟩, .int .i64 0, .slice none 0 0, .slice none 0 0, .slice none 0 0] 38 l3 b3 wc) ∧ Hid (Tel okT2 encT2 wb b3 l (s, n1) l3))
  case first =>
    refine wp_region_held_drew (S := (fun w' => w'.cell? ⟨w.heap.size, 0, none⟩ = some (.pointer (some ⟨r, 0, none⟩)))) (by kernel_rfl) (by go_keep) (fun hHeld => ?_)
    refine wpAnyH_take (i := 0) (oi := { dst := some 4, op := _, type := _, pos := _, after := _, guard := _ }) (v := ?_) rfl (by kernel_rfl) (by kernel_rfl) (by kernel_rfl) (fun _ _ _ h => h) (Or.inl ⟨by rfl, ?_⟩) (by assumption) ?_
    case refine_2 =>
      intro w hSw
      try dsimp only at hSw
      go_simp
      try with_reducible rfl
    simp only [Act.put, List.setIfInBounds_toArray, List.set_cons_zero, List.set_cons_succ]
    refine wpAnyH_take (i := 2) (oi := { dst := some 6, op := _, type := _, pos := _, after := _, guard := _ }) (v := ?_) rfl (by kernel_rfl) (by kernel_rfl) (by kernel_rfl) (fun _ _ _ h => h) (Or.inl ⟨by rfl, ?_⟩) (by assumption) ?_
    case refine_2 =>
      intro w hSw
      try dsimp only at hSw
      go_simp
      try with_reducible rfl
    simp only [Act.put, List.setIfInBounds_toArray, List.set_cons_zero, List.set_cons_succ]
    refine wpAnyH_ready (rs := [1, 5]) (by kernel_rfl) (by simp) ?_
    refine AllReadyH.cons (o := { dst := some 5, op := _, type := _, pos := _, after := _, guard := _ }) rfl (fun K hK => ?_) ?_
    · go_simp
      refine (rtext_any (unhide H0)).mono ?_
      rintro e w1 ⟨s, l1, b1, rfl, hr, he, hl1, hw1⟩
      have x1 : Hid (w1.cell? ⟨w.heap.size, 0, none⟩ = _) := he.cell (unhide x0) (unhide HBX)
      have H1 := hide hr
      have E1 := hide ((unhide E0).trans he)
      have K1 := hide ((he.block _ (hlt (unhide K0)) (unhide HRB)).trans (unhide K0))
      have L1 := hide hl1
      have W1 := hide hw1
      clear hr he hl1 hw1
      refine hK.out _ _ (unhide x1) (fun hHeld1 => ?_)
      clear hK K
      refine wpAnyH_ready (rs := [3, 5]) (by kernel_rfl) (by simp) ?_
      refine AllReadyH.cons (o := { dst := some 7, op := _, type := _, pos := _, after := _, guard := _ }) rfl (fun K hK => ?_) ?_
      · go_simp
        refine (number_any (unhide H1)).mono ?_
        rintro e w2 ⟨n1, l2, b2, rfl, in1, hr, he, hl2, hw2⟩
        have x2 : Hid (w2.cell? ⟨w.heap.size, 0, none⟩ = _) := he.cell (unhide x1) (unhide HBX)
        have H2 := hide hr
        have E2 := hide ((unhide E1).trans he)
        have K2 := hide ((he.block _ (hlt (unhide K1)) (unhide HRB)).trans (unhide K1))
        have L2 := hide hl2
        have W2 := hide hw2
        clear hr he hl2 hw2
        refine hK.out _ _ (unhide x2) (fun hHeld2 => ?_)
        clear hK K
        refine wpAnyH_take (i := 4) (oi := { dst := some 8, op := _, type := _, pos := _, after := _, guard := _ }) (v := ?_) rfl (by kernel_rfl) (by kernel_rfl) (by kernel_rfl) (fun _ _ _ h => h) (Or.inl ⟨by rfl, ?_⟩) (by assumption) ?_
        case refine_2 =>
          intro w hSw
          try dsimp only at hSw
          go_simp
          try with_reducible rfl
        simp only [Act.put, List.setIfInBounds_toArray, List.set_cons_zero, List.set_cons_succ]
        refine wpAnyH_ready (rs := [5]) (by kernel_rfl) (by simp) ?_
        refine AllReadyH.cons (o := { dst := some 3, op := _, type := _, pos := _, after := _, guard := _ }) rfl (fun K hK => ?_) AllReadyH.nil
        obtain ⟨w3, hwA⟩ : ∃ wA, w2.alloc (.cells #[.string ⟨#[]⟩, .int .i64 0, .slice none 0 0, .slice none 0 0, .slice none 0 0] 38) = wA := ⟨_, rfl⟩
        have hbA : Below w2.heap.size w2 w3 := by rw [← hwA]; exact (Below.refl _ _).alloc (Nat.le_refl _) _
        have F3 : Hid (w3.heap[w2.heap.size]? = some (.cells #[.string ⟨#[]⟩, .int .i64 0, .slice none 0 0, .slice none 0 0, .slice none 0 0] 38 (0, 0))) := by rw [← hwA]; exact hnew _ _
        obtain ⟨fb, hfb⟩ : ∃ fb, w2.heap.size = fb := ⟨_, rfl⟩
        have HFR := hide (show fb ≠ r by have := (unhide H2).lt; omega)
        have HFF := hide (show w.heap.size + 1 < fb by have := hlt (unhide K2); omega)
        have x3 : Hid (w3.cell? ⟨w.heap.size, 0, none⟩ = _) := cellk hbA (unhide x2) (cell_lt (unhide x2))
        have H3 := hide ((unhide H2).keep hbA)
        have E3 := hide ((unhide E2).trans (Ext.of_below hbA))
        have K3 := hide ((hbA.block _ (hlt (unhide K2))).trans (unhide K2))
        rw [hfb] at F3
        clear hbA
        go_simp
        try rw [hwA]
        try rw [hfb]
        clear hwA hfb
        refine hK.out _ _ (unhide x3) (fun hHeld3 => ?_)
        clear hK K
        have kb := unhide F3
        have z0 := hcell kb 0
        have y0 := hfroz kb 0
        have z1 := hcell kb 1
        have y1 := hfroz kb 1
        have z2 := hcell kb 2
        have y2 := hfroz kb 2
        have z3 := hcell kb 3
        have y3 := hfroz kb 3
        have z4 := hcell kb 4
        have y4 := hfroz kb 4
        clear kb
        refine wpAnyH_ready (rs := [6]) (by kernel_rfl) (by simp) ?_
        refine AllReadyH.cons (o := { dst := none, op := _, type := _, pos := _, after := _, guard := _ }) rfl (fun K hK => ?_) AllReadyH.nil
        go_simp
        have HX := hide (cell_setFar (cell_setFar (cell_setFar (cell_setFar (cell_setFar (unhide x3) (by have := unhide HFF; show w.heap.size ≠ fb; omega) 0 (.string s)) (by have := unhide HFF; show w.heap.size ≠ fb; omega) 1 (.int .i64 n1)) (by have := unhide HFF; show w.heap.size ≠ fb; omega) 2 (.slice none 0 0)) (by have := unhide HFF; show w.heap.size ≠ fb; omega) 3 (.slice none 0 0)) (by have := unhide HFF; show w.heap.size ≠ fb; omega) 4 (.slice none 0 0))
        refine hK.out _ _ (unhide HX) (fun hHeldS => ?_)
        clear hK K
        refine wpAnyH_done (by kernel_rfl) ?_ _
        clear z0 y0
        clear z1 y1
        clear z2 y2
        clear z3 y3
        clear z4 y4
        have hhd : Head r l w fb #[.string s, .int .i64 n1, .slice none 0 0, .slice none 0 0, .slice none 0 0] #[.string ⟨#[]⟩, .int .i64 0, .slice none 0 0, .slice none 0 0, .slice none 0 0] 38 l2 b2 _ := ⟨((((((unhide H3).setFar (by have := unhide HFF; have := unhide HRL; omega) 0 (.string s)).setFar (by have := unhide HFF; have := unhide HRL; omega) 1 (.int .i64 n1)).setFar (by have := unhide HFF; have := unhide HRL; omega) 2 (.slice none 0 0)).setFar (by have := unhide HFF; have := unhide HRL; omega) 3 (.slice none 0 0)).setFar (by have := unhide HFF; have := unhide HRL; omega) 4 (.slice none 0 0)), ((((((unhide E3).setNew (by have := unhide HFF; omega) 0 (.string s)).setNew (by have := unhide HFF; omega) 1 (.int .i64 n1)).setNew (by have := unhide HFF; omega) 2 (.slice none 0 0)).setNew (by have := unhide HFF; omega) 3 (.slice none 0 0)).setNew (by have := unhide HFF; omega) 4 (.slice none 0 0)), unhide HFF, (hset (hset (hset (hset (hset (unhide F3) 0 (.string s)) 1 (.int .i64 n1)) 2 (.slice none 0 0)) 3 (.slice none 0 0)) 4 (.slice none 0 0)), unhide HX, ((hother (.slice none 0 0) (by have := unhide HFF; omega)).trans ((hother (.slice none 0 0) (by have := unhide HFF; omega)).trans ((hother (.slice none 0 0) (by have := unhide HFF; omega)).trans ((hother (.int .i64 n1) (by have := unhide HFF; omega)).trans ((hother (.string s) (by have := unhide HFF; omega)).trans (unhide K3)))))), Nat.le_trans (unhide L2) (unhide L1), unhide HRL⟩
        have HD := hide hhd
        clear hhd
        go_wp2_with fail
        go_meet
        exact ⟨fb, s, n1, l2, b2, rfl, in1, unhide HD, ((unhide W1).pair (unhide W2) encT_pf trivial)⟩
      refine AllReadyH.cons (o := { dst := some 3, op := _, type := _, pos := _, after := _, guard := _ }) rfl (fun K hK => ?_) AllReadyH.nil
      obtain ⟨w2, hwA⟩ : ∃ wA, w1.alloc (.cells #[.string ⟨#[]⟩, .int .i64 0, .slice none 0 0, .slice none 0 0, .slice none 0 0] 38) = wA := ⟨_, rfl⟩
      have hbA : Below w1.heap.size w1 w2 := by rw [← hwA]; exact (Below.refl _ _).alloc (Nat.le_refl _) _
      have F2 : Hid (w2.heap[w1.heap.size]? = some (.cells #[.string ⟨#[]⟩, .int .i64 0, .slice none 0 0, .slice none 0 0, .slice none 0 0] 38 (0, 0))) := by rw [← hwA]; exact hnew _ _
      obtain ⟨fb, hfb⟩ : ∃ fb, w1.heap.size = fb := ⟨_, rfl⟩
      have HFR := hide (show fb ≠ r by have := (unhide H1).lt; omega)
      have HFF := hide (show w.heap.size + 1 < fb by have := hlt (unhide K1); omega)
      have x2 : Hid (w2.cell? ⟨w.heap.size, 0, none⟩ = _) := cellk hbA (unhide x1) (cell_lt (unhide x1))
      have H2 := hide ((unhide H1).keep hbA)
      have E2 := hide ((unhide E1).trans (Ext.of_below hbA))
      have K2 := hide ((hbA.block _ (hlt (unhide K1))).trans (unhide K1))
      rw [hfb] at F2
      clear hbA
      go_simp
      try rw [hwA]
      try rw [hfb]
      clear hwA hfb
      refine hK.out _ _ (unhide x2) (fun hHeld2 => ?_)
      clear hK K
      refine wpAnyH_ready (rs := [3]) (by kernel_rfl) (by simp) ?_
      refine AllReadyH.cons (o := { dst := some 7, op := _, type := _, pos := _, after := _, guard := _ }) rfl (fun K hK => ?_) AllReadyH.nil
      go_simp
      refine (number_any (unhide H2)).mono ?_
      rintro e w3 ⟨n1, l2, b2, rfl, in1, hr, he, hl2, hw2⟩
      have x3 : Hid (w3.cell? ⟨w.heap.size, 0, none⟩ = _) := he.cell (unhide x2) (unhide HBX)
      have H3 := hide hr
      have E3 := hide ((unhide E2).trans he)
      have K3 := hide ((he.block _ (hlt (unhide K2)) (unhide HRB)).trans (unhide K2))
      have F3 := hide ((he.block _ (hlt (unhide F2)) (unhide HFR)).trans (unhide F2))
      have L2 := hide hl2
      have W2 := hide hw2
      clear hr he hl2 hw2
      refine hK.out _ _ (unhide x3) (fun hHeld3 => ?_)
      clear hK K
      have kb := unhide F3
      have z0 := hcell kb 0
      have y0 := hfroz kb 0
      have z1 := hcell kb 1
      have y1 := hfroz kb 1
      have z2 := hcell kb 2
      have y2 := hfroz kb 2
      have z3 := hcell kb 3
      have y3 := hfroz kb 3
      have z4 := hcell kb 4
      have y4 := hfroz kb 4
      clear kb
      refine wpAnyH_take (i := 4) (oi := { dst := some 8, op := _, type := _, pos := _, after := _, guard := _ }) (v := ?_) rfl (by kernel_rfl) (by kernel_rfl) (by kernel_rfl) (fun _ _ _ h => h) (Or.inl ⟨by rfl, ?_⟩) (by assumption) ?_
      case refine_2 =>
        intro w hSw
        try dsimp only at hSw
        go_simp
        try with_reducible rfl
      simp only [Act.put, List.setIfInBounds_toArray, List.set_cons_zero, List.set_cons_succ]
      refine wpAnyH_ready (rs := [6]) (by kernel_rfl) (by simp) ?_
      refine AllReadyH.cons (o := { dst := none, op := _, type := _, pos := _, after := _, guard := _ }) rfl (fun K hK => ?_) AllReadyH.nil
      go_simp
      have HX := hide (cell_setFar (cell_setFar (cell_setFar (cell_setFar (cell_setFar (unhide x3) (by have := unhide HFF; show w.heap.size ≠ fb; omega) 0 (.string s)) (by have := unhide HFF; show w.heap.size ≠ fb; omega) 1 (.int .i64 n1)) (by have := unhide HFF; show w.heap.size ≠ fb; omega) 2 (.slice none 0 0)) (by have := unhide HFF; show w.heap.size ≠ fb; omega) 3 (.slice none 0 0)) (by have := unhide HFF; show w.heap.size ≠ fb; omega) 4 (.slice none 0 0))
      refine hK.out _ _ (unhide HX) (fun hHeldS => ?_)
      clear hK K
      refine wpAnyH_done (by kernel_rfl) ?_ _
      clear z0 y0
      clear z1 y1
      clear z2 y2
      clear z3 y3
      clear z4 y4
      have hhd : Head r l w fb #[.string s, .int .i64 n1, .slice none 0 0, .slice none 0 0, .slice none 0 0] #[.string ⟨#[]⟩, .int .i64 0, .slice none 0 0, .slice none 0 0, .slice none 0 0] 38 l2 b2 _ := ⟨((((((unhide H3).setFar (by have := unhide HFF; have := unhide HRL; omega) 0 (.string s)).setFar (by have := unhide HFF; have := unhide HRL; omega) 1 (.int .i64 n1)).setFar (by have := unhide HFF; have := unhide HRL; omega) 2 (.slice none 0 0)).setFar (by have := unhide HFF; have := unhide HRL; omega) 3 (.slice none 0 0)).setFar (by have := unhide HFF; have := unhide HRL; omega) 4 (.slice none 0 0)), ((((((unhide E3).setNew (by have := unhide HFF; omega) 0 (.string s)).setNew (by have := unhide HFF; omega) 1 (.int .i64 n1)).setNew (by have := unhide HFF; omega) 2 (.slice none 0 0)).setNew (by have := unhide HFF; omega) 3 (.slice none 0 0)).setNew (by have := unhide HFF; omega) 4 (.slice none 0 0)), unhide HFF, (hset (hset (hset (hset (hset (unhide F3) 0 (.string s)) 1 (.int .i64 n1)) 2 (.slice none 0 0)) 3 (.slice none 0 0)) 4 (.slice none 0 0)), unhide HX, ((hother (.slice none 0 0) (by have := unhide HFF; omega)).trans ((hother (.slice none 0 0) (by have := unhide HFF; omega)).trans ((hother (.slice none 0 0) (by have := unhide HFF; omega)).trans ((hother (.int .i64 n1) (by have := unhide HFF; omega)).trans ((hother (.string s) (by have := unhide HFF; omega)).trans (unhide K3)))))), Nat.le_trans (unhide L2) (unhide L1), unhide HRL⟩
      have HD := hide hhd
      clear hhd
      go_wp2_with fail
      go_meet
      exact ⟨fb, s, n1, l2, b2, rfl, in1, unhide HD, ((unhide W1).pair (unhide W2) encT_pf trivial)⟩
    refine AllReadyH.cons (o := { dst := some 3, op := _, type := _, pos := _, after := _, guard := _ }) rfl (fun K hK => ?_) AllReadyH.nil
    obtain ⟨w1, hwA⟩ : ∃ wA, w0.drew.alloc (.cells #[.string ⟨#[]⟩, .int .i64 0, .slice none 0 0, .slice none 0 0, .slice none 0 0] 38) = wA := ⟨_, rfl⟩
    have hbA : Below w0.drew.heap.size w0.drew w1 := by rw [← hwA]; exact (Below.refl _ _).alloc (Nat.le_refl _) _
    have F1 : Hid (w1.heap[w0.drew.heap.size]? = some (.cells #[.string ⟨#[]⟩, .int .i64 0, .slice none 0 0, .slice none 0 0, .slice none 0 0] 38 (0, 0))) := by rw [← hwA]; exact hnew _ _
    obtain ⟨fb, hfb⟩ : ∃ fb, w0.drew.heap.size = fb := ⟨_, rfl⟩
    have HFR := hide (show fb ≠ r by have := (unhide H0).lt; omega)
    have HFF := hide (show w.heap.size + 1 < fb by have := hlt (unhide K0); omega)
    have x1 : Hid (w1.cell? ⟨w.heap.size, 0, none⟩ = _) := cellk hbA (unhide x0) (cell_lt (unhide x0))
    have H1 := hide ((unhide H0).keep hbA)
    have E1 := hide ((unhide E0).trans (Ext.of_below hbA))
    have K1 := hide ((hbA.block _ (hlt (unhide K0))).trans (unhide K0))
    rw [hfb] at F1
    clear hbA
    go_simp
    try rw [hwA]
    try rw [hfb]
    clear hwA hfb
    refine hK.out _ _ (unhide x1) (fun hHeld1 => ?_)
    clear hK K
    refine wpAnyH_ready (rs := [1]) (by kernel_rfl) (by simp) ?_
    refine AllReadyH.cons (o := { dst := some 5, op := _, type := _, pos := _, after := _, guard := _ }) rfl (fun K hK => ?_) AllReadyH.nil
    go_simp
    refine (rtext_any (unhide H1)).mono ?_
    rintro e w2 ⟨s, l1, b1, rfl, hr, he, hl1, hw1⟩
    have x2 : Hid (w2.cell? ⟨w.heap.size, 0, none⟩ = _) := he.cell (unhide x1) (unhide HBX)
    have H2 := hide hr
    have E2 := hide ((unhide E1).trans he)
    have K2 := hide ((he.block _ (hlt (unhide K1)) (unhide HRB)).trans (unhide K1))
    have F2 := hide ((he.block _ (hlt (unhide F1)) (unhide HFR)).trans (unhide F1))
    have L1 := hide hl1
    have W1 := hide hw1
    clear hr he hl1 hw1
    refine hK.out _ _ (unhide x2) (fun hHeld2 => ?_)
    clear hK K
    refine wpAnyH_ready (rs := [3]) (by kernel_rfl) (by simp) ?_
    refine AllReadyH.cons (o := { dst := some 7, op := _, type := _, pos := _, after := _, guard := _ }) rfl (fun K hK => ?_) AllReadyH.nil
    go_simp
    refine (number_any (unhide H2)).mono ?_
    rintro e w3 ⟨n1, l2, b2, rfl, in1, hr, he, hl2, hw2⟩
    have x3 : Hid (w3.cell? ⟨w.heap.size, 0, none⟩ = _) := he.cell (unhide x2) (unhide HBX)
    have H3 := hide hr
    have E3 := hide ((unhide E2).trans he)
    have K3 := hide ((he.block _ (hlt (unhide K2)) (unhide HRB)).trans (unhide K2))
    have F3 := hide ((he.block _ (hlt (unhide F2)) (unhide HFR)).trans (unhide F2))
    have L2 := hide hl2
    have W2 := hide hw2
    clear hr he hl2 hw2
    refine hK.out _ _ (unhide x3) (fun hHeld3 => ?_)
    clear hK K
    have kb := unhide F3
    have z0 := hcell kb 0
    have y0 := hfroz kb 0
    have z1 := hcell kb 1
    have y1 := hfroz kb 1
    have z2 := hcell kb 2
    have y2 := hfroz kb 2
    have z3 := hcell kb 3
    have y3 := hfroz kb 3
    have z4 := hcell kb 4
    have y4 := hfroz kb 4
    clear kb
    refine wpAnyH_take (i := 4) (oi := { dst := some 8, op := _, type := _, pos := _, after := _, guard := _ }) (v := ?_) rfl (by kernel_rfl) (by kernel_rfl) (by kernel_rfl) (fun _ _ _ h => h) (Or.inl ⟨by rfl, ?_⟩) (by assumption) ?_
    case refine_2 =>
      intro w hSw
      try dsimp only at hSw
      go_simp
      try with_reducible rfl
    simp only [Act.put, List.setIfInBounds_toArray, List.set_cons_zero, List.set_cons_succ]
    refine wpAnyH_ready (rs := [6]) (by kernel_rfl) (by simp) ?_
    refine AllReadyH.cons (o := { dst := none, op := _, type := _, pos := _, after := _, guard := _ }) rfl (fun K hK => ?_) AllReadyH.nil
    go_simp
    have HX := hide (cell_setFar (cell_setFar (cell_setFar (cell_setFar (cell_setFar (unhide x3) (by have := unhide HFF; show w.heap.size ≠ fb; omega) 0 (.string s)) (by have := unhide HFF; show w.heap.size ≠ fb; omega) 1 (.int .i64 n1)) (by have := unhide HFF; show w.heap.size ≠ fb; omega) 2 (.slice none 0 0)) (by have := unhide HFF; show w.heap.size ≠ fb; omega) 3 (.slice none 0 0)) (by have := unhide HFF; show w.heap.size ≠ fb; omega) 4 (.slice none 0 0))
    refine hK.out _ _ (unhide HX) (fun hHeldS => ?_)
    clear hK K
    refine wpAnyH_done (by kernel_rfl) ?_ _
    clear z0 y0
    clear z1 y1
    clear z2 y2
    clear z3 y3
    clear z4 y4
    have hhd : Head r l w fb #[.string s, .int .i64 n1, .slice none 0 0, .slice none 0 0, .slice none 0 0] #[.string ⟨#[]⟩, .int .i64 0, .slice none 0 0, .slice none 0 0, .slice none 0 0] 38 l2 b2 _ := ⟨((((((unhide H3).setFar (by have := unhide HFF; have := unhide HRL; omega) 0 (.string s)).setFar (by have := unhide HFF; have := unhide HRL; omega) 1 (.int .i64 n1)).setFar (by have := unhide HFF; have := unhide HRL; omega) 2 (.slice none 0 0)).setFar (by have := unhide HFF; have := unhide HRL; omega) 3 (.slice none 0 0)).setFar (by have := unhide HFF; have := unhide HRL; omega) 4 (.slice none 0 0)), ((((((unhide E3).setNew (by have := unhide HFF; omega) 0 (.string s)).setNew (by have := unhide HFF; omega) 1 (.int .i64 n1)).setNew (by have := unhide HFF; omega) 2 (.slice none 0 0)).setNew (by have := unhide HFF; omega) 3 (.slice none 0 0)).setNew (by have := unhide HFF; omega) 4 (.slice none 0 0)), unhide HFF, (hset (hset (hset (hset (hset (unhide F3) 0 (.string s)) 1 (.int .i64 n1)) 2 (.slice none 0 0)) 3 (.slice none 0 0)) 4 (.slice none 0 0)), unhide HX, ((hother (.slice none 0 0) (by have := unhide HFF; omega)).trans ((hother (.slice none 0 0) (by have := unhide HFF; omega)).trans ((hother (.slice none 0 0) (by have := unhide HFF; omega)).trans ((hother (.int .i64 n1) (by have := unhide HFF; omega)).trans ((hother (.string s) (by have := unhide HFF; omega)).trans (unhide K3)))))), Nat.le_trans (unhide L2) (unhide L1), unhide HRL⟩
    have HD := hide hhd
    clear hhd
    go_wp2_with fail
    go_meet
    exact ⟨fb, s, n1, l2, b2, rfl, in1, unhide HD, ((unhide W1).pair (unhide W2) encT_pf trivial)⟩
  obtain ⟨fb, s, n1, l3, b3, rfl, in1, HD, HW⟩ := hcut
  have HIN := hide in1
  have hbx := (unhide HD).box
  clear y in1
  go_wp2_with fail
  refine (listS (unhide HD).rd).mono ?_
  rintro e u1 ⟨ga, na, ca, m1, d1, rfl, hr, he, hl, hw⟩
  have kb := (unhide HD).blk4 he
  have z1 := hcell kb 2
  have y1 := hfroz kb 2
  have HD1 := hide ((unhide HD).put hr he hl 2 (.slice ga na ca))
  have HW1 := hide hw
  have HE1 := hide he
  have hbx1 := (unhide HD1).box
  obtain ⟨v1, hv1⟩ : ∃ v1, u1.setCell ⟨fb, 2, none⟩ (.slice ga na ca) = v1 := ⟨_, rfl⟩
  rw [hv1] at HD1 hbx1
  have HV1 := hide hv1
  have HN := hide (Head.nm (unhide HD1))
  clear hr he hl hw kb
  go_wp2_with fail
  refine (listN (unhide HN)).mono ?_
  rintro e u2 ⟨gh, nh, ch, vm, ps, m2, d2, rfl, hn2, hf2, hl2, hok2, hw2⟩
  obtain ⟨gv, cv, hvm⟩ := owns_form hn2.own
  obtain ⟨nv, hnv⟩ : ∃ nv, (ps.map (·.2)).length = nv := ⟨_, rfl⟩
  rw [hnv] at hvm
  subst hvm
  have z2 := hcell hn2.blk 3
  have y2 := hfroz hn2.blk 3
  obtain ⟨v2, hv2⟩ : ∃ v2, u2.setCell ⟨fb, 3, none⟩ (.slice gh nh ch) = v2 := ⟨_, rfl⟩
  have hfar := (unhide HD1).far
  have hrl2 := (unhide HD1).rlt
  have kb : v2.heap[fb]? = some (.cells #[.string s, .int .i64 n1, .slice ga na ca, .slice gh nh ch, .slice gv nv cv] 38 (0, 0)) := by rw [← hv2]; exact hset hn2.blk 3 _
  have kr : v2.heap[w.heap.size + 1]? = some (.cells #[.string ⟨#[]⟩, .int .i64 0, .slice none 0 0, .slice none 0 0, .slice none 0 0] 38 (0, 0)) := by
    rw [← hv2]
    exact (hother _ (by omega)).trans ((hf2.block _ (hlt (unhide HD1).res) (by omega) (by omega)).trans (unhide HD1).res)
  have HRD2 : Hid (RdAt v2 r m2 d2) := by rw [← hv2]; exact hn2.rd.setFar (by omega) 3 _
  have HEX2 : Hid (Ext r w v2) := by rw [← hv2]; exact ((unhide HD1).ext.frb hf2 (by omega)).setNew (by omega) 3 _
  have HLE2 := hide (Nat.le_trans hl2 (unhide HD1).le)
  have HOK2 := hide hok2
  have HW2 := hide hw2
  have HN2 := hide hn2
  have HF2 := hide hf2
  have HV2 := hide hv2
  have HNV := hide hnv
  have p0 : v2.cell? ⟨fb, 0, none⟩ = some (.string s) := hcell kb 0
  have p1 : v2.cell? ⟨fb, 1, none⟩ = some (.int .i64 n1) := hcell kb 1
  have p2 : v2.cell? ⟨fb, 2, none⟩ = some (.slice ga na ca) := hcell kb 2
  have p3 : v2.cell? ⟨fb, 3, none⟩ = some (.slice gh nh ch) := hcell kb 3
  have p4 : v2.cell? ⟨fb, 4, none⟩ = some (.slice gv nv cv) := hcell kb 4
  have q0 := hcell kr 0
  have f0 := hfroz kr 0
  have q1 := hcell kr 1
  have f1 := hfroz kr 1
  have q2 := hcell kr 2
  have f2 := hfroz kr 2
  have q3 := hcell kr 3
  have f3 := hfroz kr 3
  have q4 := hcell kr 4
  have f4 := hfroz kr 4
  have KR := hide kr
  clear kb kr hbx hbx1 hn2 hf2 hl2 hok2 hw2 hnv hfar hrl2
  go_wp2_with fail
  have hfin : (((((v2.setCell ⟨w.heap.size + 1, 0, none⟩ (.string s)).setCell ⟨w.heap.size + 1, 1, none⟩ (.int .i64 n1)).setCell ⟨w.heap.size + 1, 2, none⟩ (.slice ga na ca)).setCell ⟨w.heap.size + 1, 3, none⟩ (.slice gh nh ch)).setCell ⟨w.heap.size + 1, 4, none⟩ (.slice gv nv cv)).heap[w.heap.size + 1]? = some (.cells #[.string s, .int .i64 n1, .slice ga na ca, .slice gh nh ch, .slice gv nv cv] 38 (0, 0)) := (hset (hset (hset (hset (hset (unhide KR) 0 (.string s)) 1 (.int .i64 n1)) 2 (.slice ga na ca)) 3 (.slice gh nh ch)) 4 (.slice gv nv cv))
  refine bodyPost_ret (v := .agg #[.string s, .int .i64 n1, .slice ga na ca, .slice gh nh ch, .slice gv nv cv]) (results_cell_row Tryz.results45 _ _ (w.heap.size + 1) 38 _ (0, 0) _ rfl hfin Tryz.underlying38 rfl (by kernel_rfl)) rfl ?_
  refine ⟨s, n1, ga, na, ca, gh, nh, ch, gv, nv, cv, m2, d2, rfl, ((((((unhide HRD2).setFar (by have := unhide HRL; omega) 0 (.string s)).setFar (by have := unhide HRL; omega) 1 (.int .i64 n1)).setFar (by have := unhide HRL; omega) 2 (.slice ga na ca)).setFar (by have := unhide HRL; omega) 3 (.slice gh nh ch)).setFar (by have := unhide HRL; omega) 4 (.slice gv nv cv)), ((((((unhide HEX2).setNew (by omega) 0 (.string s)).setNew (by omega) 1 (.int .i64 n1)).setNew (by omega) 2 (.slice ga na ca)).setNew (by omega) 3 (.slice gh nh ch)).setNew (by omega) 4 (.slice gv nv cv)), unhide HLE2, fun q => ?_, telK_cpl (unhide HW) (unhide HIN) (unhide HW1) (fun ⟨xs, _, hx, _, _, _, e⟩ => ⟨xs, hx, e⟩) (unhide HW2)⟩
  obtain ⟨q, cy, wy, ey, ly, eqy⟩ := (unhide HW2).snd q
  obtain ⟨q, xs, cx, ox, wx, ex, lx, eqx⟩ := (unhide HW1).snd q
  obtain ⟨q, e0⟩ := (unhide HW).snd q
  have hr := unhide HRL
  have hf1 := hlt (unhide HD).blk
  have hf2 := hlt (unhide HD1).blk
  have hw1 := (unhide HD).ext.size
  have hw2 := (unhide HD1).ext.size
  have hff := (unhide HD).far
  have hfb := unhide HF2
  have hnm := (unhide HN2).own
  have hnv := unhide HNV
  obtain rfl := unhide HV2
  have tail : ∀ {B : Nat} {v : Value} {n k b : Nat} {R : Nat → Nat → Value}, w.heap.size + 1 < B → SlOwn (u2.setCell ⟨fb, 3, none⟩ (.slice gh nh ch)) B v n k b R → SlOwn ((((((u2.setCell ⟨fb, 3, none⟩ (.slice gh nh ch)).setCell ⟨w.heap.size + 1, 0, none⟩ (.string s)).setCell ⟨w.heap.size + 1, 1, none⟩ (.int .i64 n1)).setCell ⟨w.heap.size + 1, 2, none⟩ (.slice ga na ca)).setCell ⟨w.heap.size + 1, 3, none⟩ (.slice gh nh ch)).setCell ⟨w.heap.size + 1, 4, none⟩ (.slice gv nv cv)) w.heap.size v n k b R := fun hB h =>
    (((((h.set hB 0 (.string s)).set hB 1 (.int .i64 n1)).set hB 2 (.slice ga na ca)).set hB 3 (.slice gh nh ch)).set hB 4 (.slice gv nv cv)).less (by omega)
  refine ⟨q, xs, ps.map (·.1), ps.map (·.2), ⟨unhide HIN, fun m hm => ?_, by simp⟩, ⟨tail (B := wc.heap.size) (by omega) ?_, tail (B := v1.heap.size) (by omega) ?_, tail (B := v1.heap.size) (by omega) ?_⟩, ?_⟩
  · obtain ⟨p, hp, rfl⟩ := List.mem_map.1 hm
    exact (unhide HOK2) p hp
  · have h1 : SlOwn v1 wc.heap.size (.slice ga na ca) xs.length 1 16 (strRow xs) := by
      rw [← unhide HV1]
      exact (SlOwn.of_owns wx ex (by show xs.length * 16 ≤ _; omega)).set hf1 2 _
    exact (h1.mv hfb.size fun j hj hl => hfb.block j hl (by omega) (by omega)).set hf1 3 _
  · refine SlOwn.set ?_ hf2 3 _
    have := SlOwn.of_owns (b := 16) wy ey (by show ps.length * 16 ≤ _; omega)
    simpa using this
  · refine SlOwn.set ?_ hf2 3 _
    have h2 := SlOwn.of_owns (b := 8) hnm (Flat.ints _) (by simp; omega)
    exact h2
  · rw [e0, eqx, eqy]
    have hz : (ps.map (·.1)).zip (ps.map (·.2)) = ps := by
      rw [List.zip_map', List.map_id']
    simp only [encK, encT2, hz, List.length_map]
    simp
end Go.Proofs.YtkafldkhmkdafaaGreatDoor

namespace Go.Proofs.YtkafldkhmkdafaaGreatDoor
open Go.RowKit
attribute [local go_sem ↓] Go.wp_at_zero Go.wp_at_succ

def KdOwn (w : World) (no : Nat → Prop) (C : Nat → Value) (c : PK) : Prop := KdIs w C c ∧ ∀ i j, liesIn (C i) j → j < w.heap.size ∧ ¬ no j
theorem KdOwn.move {w w' : World} {no no' : Nat → Prop} {C : Nat → Value} {c : PK} (h : KdOwn w no C c) (hs : w.heap.size ≤ w'.heap.size) (hb : ∀ j, j < w.heap.size → ¬ no j → w'.heap[j]? = w.heap[j]?) (hn : ∀ j, j < w.heap.size → no' j → no j) : KdOwn w' no' C c := by
  obtain ⟨⟨h1, h2, h3, h4, h5⟩, h7⟩ := h
  exact ⟨⟨h1, h2, h3.far fun j hj => hb j (h7 2 j hj).1 (h7 2 j hj).2, h4.far fun j hj => hb j (h7 3 j hj).1 (h7 3 j hj).2, h5.far fun j hj => hb j (h7 4 j hj).1 (h7 4 j hj).2⟩,
    fun i j hj => ⟨Nat.lt_of_lt_of_le (h7 i j hj).1 hs, fun q => (h7 i j hj).2 (hn j (h7 i j hj).1 q)⟩⟩
def kdRow (f : PK) (a b c : Value) (j : Nat) : Value := match j with | 0 => .string f.name | 1 => .int .i64 f.above | 2 => a | 3 => b | 4 => c | _ => undef
theorem KdOwn.of {w : World} {f : PK} {a b c : Value} {B : Nat} {no : Nat → Prop} (h : KdNew B w a b c f) (hn : ∀ j, no j → j < B) : KdOwn w no (kdRow f a b c) f := by
  obtain ⟨ha, hb, hc⟩ := h
  refine ⟨⟨rfl, rfl, ha.1, hb.1, hc.1⟩, fun i j hj => ?_⟩
  have hh : B ≤ j ∧ j < w.heap.size := by
    match i, hj with
    | 0, ⟨_, _, _, q⟩ => cases q
    | 1, ⟨_, _, _, q⟩ => cases q
    | 2, q => exact ha.2 j q
    | 3, q => exact hb.2 j q
    | 4, q => exact hc.2 j q
    | _ + 5, ⟨_, _, _, q⟩ => cases q
  exact ⟨hh.2, fun q => by have := hn j q; omega⟩
def ElKd (B : Nat) (w : World) (v : Value) (cells : List Value) (xs : List PK) : Prop := ∃ R, Flat cells xs.length 5 R ∧ ∀ i f, xs[i]? = some f → KdOwn w (noB B v) (R i) f
theorem ElKd.snoc {r B : Nat} {wr w3 w5 : World} {v : Value} {cells : List Value} {xs : List PK} {a b c : Value} {f : PK} {g n cap : Nat} {o : Obj} (h : ElKd B wr v cells xs) (hlen : cells.length = xs.length * 5) (he : Ext r wr w3) (hr : r < B) (hB : B ≤ wr.heap.size) (hv : ∀ j, v.ownBlock = some j → j < wr.heap.size) (hf : KdNew wr.heap.size w3 a b c f)
    (hg : (w3.alloc o).grownBy w5 v.ownBlock) (hat : v.ownBlock = some g ∨ g = w3.heap.size + 1) :
    ElKd B w5 (.slice (some ⟨g, 0, none⟩) n cap) (cells ++ [.string f.name, .int .i64 f.above, a, b, c]) (xs ++ [f]) := by
  obtain ⟨R, h1, h2⟩ := h
  have hs3 : w3.heap.size ≤ w5.heap.size := Nat.le_trans (by simp) hg.size
  have key : ∀ {w : World} {C f}, (∀ j, j < w.heap.size → ¬ noB B v j → w3.heap[j]? = w.heap[j]?) → w.heap.size ≤ w3.heap.size → KdOwn w (noB B v) C f → KdOwn w5 (noB B (.slice (some ⟨g, 0, none⟩) n cap)) C f := fun hb hs q =>
    q.move (Nat.le_trans hs hs3) (fun j hj hn => ((hg.block j (by simp; omega) fun e => hn (Or.inr e.symm)).trans (Below.heap_alloc _ _ _ (by omega))).trans (hb j hj hn)) (fun j hj q => by
      rcases q with q | q
      · exact Or.inl q
      · simp only [Value.ownBlock, Option.some.injEq] at q
        rcases hat with e | e
        · exact Or.inr (by rw [e, q])
        · omega)
  refine ⟨fun i => if i = xs.length then kdRow f a b c else R i, ?_, fun i f' hi => ?_⟩
  · rw [List.length_append]
    refine (h1.turn fun i hi => ?_).snoc hlen fun j hj => ?_
    · rw [if_neg (by omega)]
    · rw [if_pos rfl]
      match j, hj with
      | 0, _ => rfl
      | 1, _ => rfl
      | 2, _ => rfl
      | 3, _ => rfl
      | 4, _ => rfl
  · by_cases e : i = xs.length
    · subst e
      rw [new_get] at hi
      cases hi
      simp only [if_pos]
      exact key (fun _ _ _ => rfl) (Nat.le_refl _) (KdOwn.of hf fun j hj => by
        rcases hj with q | q
        · omega
        · exact hv j q)
    · simp only [if_neg e]
      have hi2 : i < xs.length := by
        have := (List.getElem?_eq_some_iff.1 hi).1
        simp at this
        omega
      rw [old_get hi2] at hi
      exact key (fun j hj hn => he.block j hj fun q => hn (Or.inl (by omega))) he.size (h2 i f' hi)
theorem infoCK : (Tryz.prog.info? 38).map (fun i => (i.zero, i.size, i.bytes)) = some (some (.agg #[.string ByteArray.empty, .int .i64 0, .slice none 0 0, .slice none 0 0, .slice none 0 0]), 5, 96) := by kernel_rfl

set_option maxRecDepth 100000 in
set_option maxHeartbeats 4000000 in
theorem listK {w : World} {r : Nat} {l : List Int} {wb : Bool} (h : RdAt w r l wb) :
    Calls Tryz.prog 44 #[.pointer (some ⟨r, 0, none⟩), .func (.func 45) #[.pointer (some ⟨r, 0, none⟩)] #[]] w fun e w' => ListPost okK encK (ElKd w.heap.size) 38 5 r l wb w e w' := by
  have hrl := h.lt
  have HRL := hide hrl
  have H := hide h
  obtain ⟨i0, hi, hz0, hz1, hz2⟩ := info_parts infoCK
  clear h
  go_enter Tryz.func44, Tryz.ntmps44
  go_wp2_with fail
  refine (many_any (unhide H)).mono ?_
  rintro e w1 ⟨n, l1, wb1, rfl, hn, hr1, he1, hl1, hw1⟩
  have HM0 := hide (show LInvN okK encK (ElKd w.heap.size) 38 5 r l l1 wb1 w [] (.slice none 0 0) [] l1 wb1 w1 from LInvN.start hr1 he1 hl1 ⟨fun _ _ => undef, Flat.nil _ _, fun _ _ q => by cases q⟩)
  have hn2 : n ≤ 110000 := Nat.le_trans hn hr1.len
  have HW := hide hw1
  clear hr1 he1 hl1 hw1 hn
  go_wp2_with fail
  go_loopg [5, 8] n (fun gg v i wr => ∃ (k : Nat) (V : Value), k ≤ n ∧ gg = n - k ∧ i = .int .i64 k ∧ v = V ∧ Hid (∃ xs cells l2 wb2, xs.length = k ∧ LInvN okK encK (ElKd w.heap.size) 38 5 r l l1 wb1 w xs V cells l2 wb2 wr))
  case atStart => exact ⟨0, .slice none 0 0, Nat.zero_le _, rfl, rfl, rfl, [], [], l1, wb1, rfl, unhide HM0⟩
  case round =>
    obtain ⟨k, v, hk, rfl, rfl, rfl, HY⟩ := hrel
    obtain ⟨xs, cells, l2, wb2, rfl, hm⟩ := unhide HY
    have HM := hide hm
    have HR2 := hide hm.rd
    obtain ⟨g2, cap2, t2, hbk, _⟩ := hm.rd.blk
    have c1 : wr.cell? ⟨r, 1, none⟩ = some (.bool wb2) := hcell hbk 1
    clear hbk hm HY
    by_cases hlk : xs.length < n
    · have hk2 : (xs.length : Int) < (n : Int) := by omega
      cases wb2 with
      | true =>
        go_wp2_with fail
        go_ret
        exact (unhide HM).wrong (Nat.le_of_lt hlk) (unhide HW) encK_pos
      | false =>
        go_wp2_with fail
        refine (rclass_any (unhide HR2)).mono ?_
        rintro e w3 ⟨s, n1, ga, na, ca, gh, nh, ch, gv, nv, cv, l3, wb3, rfl, hr3, he3, hl3, hw3⟩
        have HO := hide (owns_alloc (owns_ext (unhide HM).own he3 (unhide HRL)) (.cells #[.string s, .int .i64 n1, .slice ga na ca, .slice gh nh ch, .slice gv nv cv] 38))
        have HR3 := hide hr3
        have HE3 := hide he3
        have HL3 := hide hl3
        have HW3 := hide (show wb3 = false → ∃ ys zs us, okK ⟨s, n1, ys, zs, us⟩ ∧ KdNew wr.heap.size w3 (.slice ga na ca) (.slice gh nh ch) (.slice gv nv cv) ⟨s, n1, ys, zs, us⟩ ∧ l2 = encK ⟨s, n1, ys, zs, us⟩ ++ l3 from fun q => (hw3.snd q).2)
        have HC3 := hide (hw3.cpl rfl)
        have hs3 : w.heap.size ≤ w3.heap.size := Nat.le_trans (unhide HM).ext.size he3.size
        clear hr3 he3 hl3 hw3 c1
        go_wp2_with (at_builtin; refine wpList_append_lies _ rfl _ _ _ rfl w.heap.size 38 i0 (.agg #[.string ByteArray.empty, .int .i64 0, .slice none 0 0, .slice none 0 0, .slice none 0 0]) 5 96 Tryz.underlying24 hi hz0 hz1 hz2 rfl (by decide) _ xs.length cells rfl (unhide HO) ⟨w3.heap.size, 0, none⟩ 1 1 [.string s, .int .i64 n1, .slice ga na ca, .slice gh nh ch, .slice gv nv cv] rfl rfl (news_at rfl _ _) ?c2 (by decide) ?c3 ?c4 ?c5 (w3.heap.size + 1) ?c6 ?_)
        case c2 => first | exact ⟨rfl, rfl, rfl, rfl, rfl⟩ | (intro u hu; simp at hu; rcases hu with rfl | rfl | rfl | rfl | rfl <;> rfl)
        case c3 => unfold maxLen; omega
        case c4 => omega
        case c5 => first | omega | (simp; omega)
        try case c6 => simp
        intro g cap w5 hown hgrow hat hlt5
        have HM5 : Hid (∃ x, LInvN okK encK (ElKd w.heap.size) 38 5 r l l1 wb1 w (xs ++ [x]) (.slice (some ⟨g, 0, none⟩) (xs.length + 1) cap) (cells ++ [.string s, .int .i64 n1, .slice ga na ca, .slice gh nh ch, .slice gv nv cv]) l3 wb3 w5) := by
          cases wb3 with
          | true => exact ⟨⟨s, n1, [], [], []⟩, (unhide HM).snoc (unhide HRL) (fun q => by cases q) (unhide HR3) (unhide HE3) (unhide HL3) (fun q => by cases q) encK_pf (unhide HC3) hown hgrow (fun q => by cases q)⟩
          | false =>
            obtain ⟨ys, zs, us, q1, q2, q3⟩ := (unhide HW3) rfl
            have hsz := (unhide HM).ext.size
            exact ⟨⟨s, n1, ys, zs, us⟩, (unhide HM).snoc (unhide HRL) (fun _ => q1) (unhide HR3) (unhide HE3) (unhide HL3) (fun _ => q3) encK_pf (unhide HC3) hown hgrow (fun _ => ElKd.snoc ((unhide HM).el rfl) (unhide HM).own.1 (unhide HE3) (unhide HRL) hsz (fun j hj => (owns_ne (unhide HM).own j hj).2) q2 hgrow hat)⟩
        clear hown hgrow hat hlt5
        obtain ⟨x, hm5⟩ := unhide HM5
        have HM6 := hide hm5
        clear hm5 HM5
        go_wp2_with fail
        go_roundg (n - (xs.length + 1))
        case measure => omega
        case rel => exact ⟨xs.length + 1, _, by omega, rfl, by go_num, rfl, _, _, l3, wb3, by simp, unhide HM6⟩
    · have hk2 : ¬ (xs.length : Int) < (n : Int) := by omega
      go_wp2_with fail
      go_ret
      exact (unhide HM).done (by omega) hn2 (unhide HW) encK_pos
end Go.Proofs.YtkafldkhmkdafaaGreatDoor
