/-
  Heap.Minor, where no old object is noted: walked.
-/
import Derived.Test.YtddfdefgdlfpmaaM12
namespace Go.Proofs.Ytddfdefgdlfpmaa
open Go.RowKit Go.Maps

/-- Roots, ahead of a collection: none of their blocks is the heap's. -/
structure RtFree (w : World) (hp mb : Nat) (vyo vyf voo vof : Value) (g : Option Addr) (l : List (Option (Nat × Nat × HV))) : Prop where
  rt : RtAt w g l
  gt : ∀ gb go, g = some ⟨gb, go, none⟩ → 0 < l.length → Typ w gb 40
  ty : ∀ rb ro v, some (rb, ro, v) ∈ l → ∃ cs, w.heap[rb]? = some (.cells cs 34 (0, 0))
  nf : ∀ rb ro v, some (rb, ro, v) ∈ l → vyf.ownBlock ≠ some rb ∧ vof.ownBlock ≠ some rb
  ap : ∀ rb ro v ro' v', some (rb, ro, v) ∈ l → some (rb, ro', v') ∈ l → ro = ro' ∨ ro + 2 < ro' ∨ ro' + 2 < ro
  n64 : ∀ rb ro v, some (rb, ro, v) ∈ l → I64 v.n
  few : l.length ≤ 1000000000
theorem RtFree.keep {w w' : World} {hp mb : Nat} {vyo vyf voo vof : Value} {g : Option Addr} {l : List (Option (Nat × Nat × HV))} (h : RtFree w hp mb vyo vyf voo vof g l) (hb : Below w.heap.size w w') : RtFree w' hp mb vyo vyf voo vof g l := by
  refine ⟨⟨fun k r hk => ?_, fun rb ro v hv => ?_⟩, fun gb go e h0 => (h.gt gb go e h0).move (hb.block _ (h.gt gb go e h0).lt), fun rb ro v hv => ?_, h.nf, h.ap, h.n64, h.few⟩
  · obtain ⟨gb, go, e, hc⟩ := h.rt.at' k r hk
    exact ⟨gb, go, e, cellk hb hc (cell_lt (a := ⟨gb, go + k, none⟩) hc)⟩
  · obtain ⟨a, b, c⟩ := h.rt.val rb ro v hv
    exact ⟨cellk hb a (cell_lt a), cellk hb b (cell_lt b), cellk hb c (cell_lt c)⟩
  · obtain ⟨cs, hc⟩ := h.ty rb ro v hv
    exact ⟨cs, (hb.block rb (hlt hc)).trans hc⟩

/-- Roots lie apart from what moves. -/
theorem min_fit {B : Nat} {w2 w4 : World} {hp mb : Nat} {P : PHp} {D : DataW Unit} {n : Nat} {vyo vyf voo vof vn : Value} (hG : HpG B w2 hp mb P D n vyo vyf voo vof vn) {g : Option Addr} {l : List (Option (Nat × Nat × HV))} (hr : RtFree w2 hp mb vyo vyf voo vof g l) (hb : Below w2.heap.size w2 w4) :
    RtFit (minB w2 hp vyo vyf) voo vof w4 g l := by
  have tH : Typ w2 hp 51 := ⟨_, _, hG.at'.blk⟩
  have out : ∀ k t, Typ w2 k t → t ≠ 51 → t ≠ 56 → vof.ownBlock ≠ some k → Out (minB w2 hp vyo vyf) voo vof w4 k := fun k t hk h1 h2 h3 =>
    ⟨Nat.lt_of_lt_of_le hk.lt hb.size, hk.ne tH h1, fun b hb' e => by
      simp [minB] at hb'
      subst hb'
      have e : w2.heap.size = k := e
      have := hk.lt
      omega, fun e => (hk.ne (owns_ty hG.at'.oo e) h2) rfl, h3⟩
  refine ⟨⟨fun gb go e h0 => out gb _ (hr.gt gb go e h0) (by decide) (by decide) (fun e' => ((hr.gt gb go e h0).ne (owns_ty hG.at'.of' e') (by decide)) rfl), fun rb ro v hv => ?_⟩, fun rb ro v hv => ?_, fun b hb' rb ro v hv => ?_, fun gb go e h0 => (hr.gt gb go e h0).move (hb.block _ (hr.gt gb go e h0).lt), hr.ap, (hr.keep hb).ty⟩
  · obtain ⟨cs, hc⟩ := hr.ty rb ro v hv
    exact out rb _ ⟨_, _, hc⟩ (by decide) (by decide) (hr.nf rb ro v hv).2
  · obtain ⟨cs, hc⟩ := (hr.keep hb).ty rb ro v hv
    exact ⟨_, _, hc⟩
  · simp [minB] at hb'
    subst hb'
    exact (hr.nf rb ro v hv).1
theorem RtFit.later {m : Mb} {vto vtf vto' vtf' : Value} {w w' : World} {g : Option Addr} {l : List (Option (Nat × Nat × HV))} (h : RtFit m vto vtf w g l) (hF : FrM m vto vtf w w') (h1 : vto'.ownBlock = vto.ownBlock ∨ ∀ j, vto'.ownBlock = some j → w.heap.size ≤ j) (h2 : vtf'.ownBlock = vtf.ownBlock ∨ ∀ j, vtf'.ownBlock = some j → w.heap.size ≤ j) : RtFit m vto' vtf' w' g l :=
  ⟨⟨fun gb go e h0 => (h.out.g' gb go e h0).later hF.size h1 h2, fun rb ro v hv => (h.out.v' rb ro v hv).later hF.size h1 h2⟩, fun rb ro v hv => (h.ty rb ro v hv).move ((h.out.v' rb ro v hv).same hF), h.bf, fun gb go e h0 => (h.gt gb go e h0).move ((h.out.g' gb go e h0).same hF), h.ap, fun rb ro v hv => by
    obtain ⟨cs, hc⟩ := h.fz rb ro v hv
    exact ⟨cs, ((h.out.v' rb ro v hv).same hF).trans hc⟩⟩
theorem RtFit.alloc {m : Mb} {vto vtf : Value} {w w' : World} {g : Option Addr} {l : List (Option (Nat × Nat × HV))} (h : RtFit m vto vtf w g l) (hb : Below w.heap.size w w') (ht : m.tb < w.heap.size) : RtFit m vto vtf w' g l := h.later (FrM.of_below hb ht) (Or.inl rfl) (Or.inl rfl)
theorem not_map {w : World} {mb : Nat} {es : Array MapEntry} {cl : Nat} (hm : w.heap[mb]? = some (.map es cl)) {k : Nat} {t : TypeId} (hk : Typ w k t) : k ≠ mb := by
  rintro rfl
  obtain ⟨cs, fr, hc⟩ := hk
  rw [hc] at hm
  cases hm
/-- What settle asks of the heap. -/
theorem min_st {B : Nat} {w2 w4 w6 w7 : World} {hp mb : Nat} {P : PHp} {D : DataW Unit} {n : Nat} {vyo vyf voo vof vn vt6 vf6 : Value} {M6 : MS} {cs6 : Array Value} (hG2 : HpG B w2 hp mb P D n vyo vyf voo vof vn) (hb4 : Below w2.heap.size w2 w4) {g : Option Addr} {l : List (Option (Nat × Nat × HV))} (hr : RtFree w2 hp mb vyo vyf voo vof g l)
    (hF : FrM (minB w2 hp vyo vyf) voo vof w4 w6) (hM6 : MvAt B w6 (minB w2 hp vyo vyf) M6 cs6 51 vt6 vf6) (a6 : vt6.ownBlock = voo.ownBlock ∨ ∀ j, vt6.ownBlock = some j → w4.heap.size ≤ j) (b6 : vf6.ownBlock = vof.ownBlock ∨ ∀ j, vf6.ownBlock = some j → w4.heap.size ≤ j)
    (hw7 : w7 = w6.alloc (.cells #[.pointer (some ⟨w2.heap.size + 1, 0, none⟩)] 65)) : ∃ p0, M6.L = [p0] ∧ p0.first = P.fy ∧ p0.objs.length = P.Y.length ∧ StAt w7 (minB w2 hp vyo vyf) M6 vt6 vf6 hp mb w6.heap.size ⟨w2.heap.size + 1, hp, 0, w2.heap.size, vyo, vyf⟩ p0 l n D := by
  have hb7 : Below w6.heap.size w6 w7 := by rw [hw7]; exact (Below.refl _ _).alloc (Nat.le_refl _) _
  have hs7 : w7.heap.size = w6.heap.size + 1 := by rw [hw7]; simp
  have hG4 := hG2.keep hb4
  have tH : Typ w2 hp 51 := ⟨_, _, hG2.at'.blk⟩
  obtain ⟨es, cl, hm2, hrest⟩ := hG2.own
  have hm4 : w4.heap[mb]? = some (.map es cl) := (hb4.block mb (hlt hm2)).trans hm2
  have omb : Out (minB w2 hp vyo vyf) voo vof w4 mb := ⟨hlt hm4, fun e => not_map hm2 tH e.symm, fun b hb' e => by
    simp [minB] at hb'
    subst hb'
    have e : w2.heap.size = mb := e
    have := hlt hm2
    omega, fun e => not_map hm2 (owns_ty hG2.at'.oo e) rfl, fun e => not_map hm2 (owns_ty hG2.at'.of' e) rfl⟩
  have hm7 : w7.heap[mb]? = some (.map es cl) := (hb7.block mb (Nat.lt_of_lt_of_le (hlt hm4) hF.size)).trans ((omb.same hF).trans hm4)
  have hlen := hM6.fr.len
  obtain ⟨p0, hp0⟩ : ∃ p0, M6.L = [p0] := by
    match hL : M6.L, hlen with
    | [p], _ => exact ⟨p, rfl⟩
    | [], q => simp [minB] at q
    | _ :: _ :: _, q => simp [minB] at q
  have lv := hM6.fr.lvs 0 ⟨w2.heap.size + 1, hp, 0, w2.heap.size, vyo, vyf⟩ p0 rfl (by rw [hp0]; rfl)
  have hrt : ∀ k, rootB l k → Typ w2 k 34 := fun k ⟨ro, v, hv⟩ => by
    obtain ⟨cs, hc⟩ := hr.ty k ro v hv
    exact ⟨_, _, hc⟩
  have e0 : w6.cell? ⟨hp, 0, none⟩ = some (.int .i64 P.fy) := (hF.head 0 (by simp [minB])).trans (hcell hG4.at'.blk 0)
  refine ⟨p0, hp0, ?_, ?_, ⟨?_, ⟨es, cl, hm7, hrest⟩, (omb.later hF.size a6 b6).later hb7.size (Or.inl rfl) (Or.inl rfl), fun q => not_map hm2 (hrt mb q) rfl, ?_, ?_, ?_, Or.inl ⟨rfl, rfl⟩, fun q => ((hrt hp q).ne tH (by decide)) rfl, ?_, fun _ => by simp [minB], rfl, by rw [hp0]; rfl, ⟨rfl, rfl⟩⟩⟩
  · have := lv.f0
    rw [show (⟨hp, 0, none⟩ : Addr) = ⟨hp, 0, none⟩ from rfl] at this
    have e1 : w6.cell? ⟨hp, 0, none⟩ = some (.int .i64 p0.first) := this
    rw [e0] at e1
    simpa using e1.symm
  · obtain ⟨g1, c1, q1⟩ := owns_form lv.pt.objs
    obtain ⟨g2, c2, q2⟩ := owns_form hG2.at'.yo
    have q1 : vyo = .slice g1 p0.objs.length c1 := q1
    rw [q2] at q1
    simp only [Value.slice.injEq] at q1
    exact q1.2.1.symm
  · have q : w6.cell? ⟨hp, 9, none⟩ = some (.map (some mb)) := (hF.head 9 (by simp [minB])).trans (hcell hG4.at'.blk 9)
    exact cellk hb7 q (cell_lt q)
  · refine ⟨by omega, fun e => ?_, fun b hb' e => ?_, fun e => ?_, fun e => ?_⟩
    · have := hlt hM6.tpart.blk
      have e : w6.heap.size = hp := e
      have this : hp < w6.heap.size := this
      omega
    · have := (hM6.wb_ty hb').lt
      omega
    · have := (owns_ty hM6.tpart.objs e).lt
      omega
    · have := (owns_ty hM6.tpart.flds e).lt
      omega
  · intro q
    have := (hrt _ q).lt
    have := hb4.size
    have := hF.size
    omega
  · intro j b hj
    match j with
    | 0 =>
      simp [minB] at hj
      subst hj
      rw [hw7]
      exact hcell (hnew _ _) 0
    | j + 1 => simp [minB] at hj
  · have q : w6.heap[hp]? = some (.cells cs6 51 (0, 0)) := hM6.tpart.blk
    exact ⟨cs6, _, (hb7.block hp (hlt q)).trans q, by rw [hM6.szn]; simp [minB]⟩
/-- The heap behind a Minor. -/
def minP (P : PHp) (T : List HO) (mn : Int) : PHp := { P with fy := P.fy + 2 * P.Y.length, Y := [], O := T, noted := [], minors := mn }
/-- What comes of a Minor. -/
def MinorPost (B : Nat) (P : PHp) (D : DataW Unit) (n hp mb : Nat) (g : Option Addr) (l : List (Option (Nat × Nat × HV))) (voo vof : Value) (w w' : World) : Prop :=
  ∃ (M : MS) (n' : Nat) (vto' vtf' : Value) (mn : Int), MInv P.O.length (allF M.T).length M ∧ Cap M ∧ Later (minM P).L M.L ∧ M.ft = P.fo ∧ M = restM (Go.Proofs.Ytddfdefgdlfpmaa.pot (rootsM (minM P) (rootVs l)) - (allF P.O).length) (rootsM (minM P) (rootVs l)) (allF P.O).length ∧ (∃ r, M.T.map hdr = P.O.map hdr ++ r) ∧ (∀ i, i < (allF P.O).length → (allF M.T)[i]? = (allF P.O)[i]?) ∧ (∀ rb ro v, some (rb, ro, v) ∈ l → Went M.L v) ∧
    RtNow M w' g l l.length ∧ HpAt B w' hp mb (minP P M.T mn) (.slice none 0 0) (.slice none 0 0) vto' vtf' (.slice none 0 0) ∧ w'.ownsMap Try.prog 3 (plainElem Try.prog 3) mb n' (idsAll D M.L) ∧ n' ≤ n + P.Y.length ∧
    (vto'.ownBlock = voo.ownBlock ∨ ∀ j, vto'.ownBlock = some j → w.heap.size ≤ j) ∧ (vtf'.ownBlock = vof.ownBlock ∨ ∀ j, vtf'.ownBlock = some j → w.heap.size ≤ j) ∧
    (∀ k, k < w.heap.size → k ≠ hp → k ≠ mb → voo.ownBlock ≠ some k → vof.ownBlock ≠ some k → ¬ rootB l k → w'.heap[k]? = w.heap[k]?) ∧ w.heap.size ≤ w'.heap.size ∧ w'.os = w.os ∧ w'.tape = w.tape ∧ w'.output = w.output
theorem size13 {cs : Array Value} {a : Array Value} (h1 : cs.size = 13) (h2 : a.size = 13) (h : ∀ c, c < 13 → cs[c]? = a[c]?) : cs = a := by
  apply Array.ext_getElem?
  intro i
  by_cases hi : i < 13
  · exact h i hi
  · rw [Array.getElem?_eq_none (by omega), Array.getElem?_eq_none (by omega)]
/-- A call of a Go function, as one step. -/
theorem step_enterH {P : Program} {ops : Array Oper} {Q : Exit → Act → World → Prop} {o : Oper} {a : Act} {w : World} {K : Act → World → Prop} {E : Prop} (hgd : o.guard = none) {F : FuncId} {args : Array Value} (hrun : (execOp a.eval o).run P w = .ok (.enter F args) w)
    (hc : Calls P F args w fun
      | .returned v, w'' => K (a.put o.dst v) w''
      | .panicked chain, w'' => Q (.panic chain) a w''
      | .outgrown, _ => LetsOut Q) : if Region.wanted o (yielded ops a.tmps) = true then Oper.wp P o a w K Q else E := by
  rw [if_pos (show Region.wanted o (yielded ops a.tmps) = true by simp [Region.wanted, hgd])]
  unfold Oper.wp
  rw [hrun]
  exact hc

set_option maxRecDepth 100000 in
set_option maxHeartbeats 16000000 in
theorem minor_clean {B : Nat} {w : World} {hp mb : Nat} {P : PHp} {D : DataW Unit} {n : Nat} {vyo vyf voo vof vn : Value} (h : HpG B w hp mb P D n vyo vyf voo vof vn) (hno : P.noted = []) {g : Option Addr} {l : List (Option (Nat × Nat × HV))} (hr : RtFree w hp mb vyo vyf voo vof g l) (cap : Nat) (hnn : n ≤ 500000000) (hroom : (P.Y.length + (allF P.Y).length + (P.O.length + (allF P.O).length) : Int) ≤ P.ro) :
    Calls Try.prog 11 #[.pointer (some ⟨hp, 0, none⟩), .slice g l.length cap] w fun e w' => e = .returned .nilIface ∧ MinorPost B P D n hp mb g l voo vof w w' := by
  have H := hide h
  have HR := hide hr
  have HNO := hide hno
  have c7 : w.cell? ⟨hp, 7, none⟩ = some (.int .i64 P.ro) := hcell h.at'.blk 7
  have hc1 := h.cnt
  have hc2 := h.pot
  have HPY := hide (h.at'.young h.few)
  have HPO := hide (h.at'.old h.few)
  obtain ⟨cy, hcy⟩ : ∃ cy : Nat, P.Y.length + (allF P.Y).length = cy := ⟨_, rfl⟩
  obtain ⟨co, hco⟩ : ∃ co : Nat, P.O.length + (allF P.O).length = co := ⟨_, rfl⟩
  have hroom2 : (cy : Int) + (co : Int) ≤ P.ro := by omega
  have HCY : Hid (∀ X, Below w.heap.size w X → Calls Try.prog 17 #[.pointer (some ⟨hp, 0, none⟩)] X fun e w' => e = .returned (.int .i64 (cy : Int)) ∧ Below X.heap.size X w') := fun X hX => by
    have := cells_any ((unhide HPY).keep hX) (by omega)
    rw [hcy] at this
    exact this
  have HCO : Hid (∀ X, Below w.heap.size w X → Calls Try.prog 17 #[.pointer (some ⟨hp, 3, none⟩)] X fun e w' => e = .returned (.int .i64 (co : Int)) ∧ Below X.heap.size X w') := fun X hX => by
    have := cells_any ((unhide HPO).keep hX) (by omega)
    rw [hco] at this
    exact this
  have hcy2 : cy ≤ 20000000 := by omega
  have hco2 : co ≤ 20000000 := by omega
  clear h hr hno hcy hco hc1 hc2 hroom
  have ent0 : ∀ w : World, Sem.run Try.prog (callFunc 17 #[.pointer (some ⟨hp, 0, none⟩)]) w = .ok (.enter 17 #[.pointer (some ⟨hp, 0, none⟩)]) w := fun _ => by kernel_rfl
  have ent3 : ∀ w : World, Sem.run Try.prog (callFunc 17 #[.pointer (some ⟨hp, 3, none⟩)]) w = .ok (.enter 17 #[.pointer (some ⟨hp, 3, none⟩)]) w := fun _ => by kernel_rfl
  have hwr : IntKind.i64.wrap ((cy : Int) + (co : Int)) = (cy : Int) + (co : Int) := wrap_id (by omega) (by omega)
  have hrm : decide (P.ro < (cy : Int) + (co : Int)) = false := by simp; omega
  go_enter Try.func11, Try.ntmps11
  go_wp2_with fail
  refine wp_region_held_drew (S := fun w' => w'.cell? ⟨hp, 7, none⟩ = some (.int .i64 P.ro)) (by kernel_rfl) c7 (fun hHeld => ?_)
  refine wpAnyH_take (i := 0) (oi := { dst := some 14, op := _, type := _, pos := _, after := _, guard := _ }) (v := ?_) rfl (by kernel_rfl) (by kernel_rfl) (by kernel_rfl) (fun _ _ _ h => h) (Or.inl ⟨by rfl, ?_⟩) (by assumption) ?_
  case refine_2 =>
    intro w hSw
    try dsimp only at hSw
    go_simp
    try with_reducible rfl
  simp only [Act.put, List.setIfInBounds_toArray, List.set_cons_zero, List.set_cons_succ]
  refine wpAnyH_take (i := 1) (oi := { dst := some 15, op := _, type := _, pos := _, after := _, guard := _ }) (v := ?_) rfl (by kernel_rfl) (by kernel_rfl) (by kernel_rfl) (fun _ _ _ h => h) (Or.inl ⟨by rfl, ?_⟩) (by assumption) ?_
  case refine_2 =>
    intro w hSw
    try dsimp only at hSw
    go_simp
    try with_reducible rfl
  simp only [Act.put, List.setIfInBounds_toArray, List.set_cons_zero, List.set_cons_succ]
  refine wpAnyH_take (i := 2) (oi := { dst := some 16, op := _, type := _, pos := _, after := _, guard := _ }) (v := ?_) rfl (by kernel_rfl) (by kernel_rfl) (by kernel_rfl) (fun _ _ _ h => h) (Or.inl ⟨by rfl, ?_⟩) (by assumption) ?_
  case refine_2 =>
    intro w hSw
    try dsimp only at hSw
    go_simp
    try with_reducible rfl
  simp only [Act.put, List.setIfInBounds_toArray, List.set_cons_zero, List.set_cons_succ]
  refine wpAnyH_take (i := 4) (oi := { dst := some 18, op := _, type := _, pos := _, after := _, guard := _ }) (v := ?_) rfl (by kernel_rfl) (by kernel_rfl) (by kernel_rfl) (fun _ _ _ h => h) (Or.inl ⟨by rfl, ?_⟩) (by assumption) ?_
  case refine_2 =>
    intro w hSw
    try dsimp only at hSw
    go_simp
    try with_reducible rfl
  simp only [Act.put, List.setIfInBounds_toArray, List.set_cons_zero, List.set_cons_succ]
  refine wpAnyH_take (i := 5) (oi := { dst := some 19, op := _, type := _, pos := _, after := _, guard := _ }) (v := ?_) rfl (by kernel_rfl) (by kernel_rfl) (by kernel_rfl) (fun _ _ _ h => h) (Or.inl ⟨by rfl, ?_⟩) (by assumption) ?_
  case refine_2 =>
    intro w hSw
    try dsimp only at hSw
    go_simp
    try with_reducible rfl
  simp only [Act.put, List.setIfInBounds_toArray, List.set_cons_zero, List.set_cons_succ]
  refine wpAnyH_take (i := 6) (oi := { dst := some 20, op := _, type := _, pos := _, after := _, guard := _ }) (v := ?_) rfl (by kernel_rfl) (by kernel_rfl) (by kernel_rfl) (fun _ _ _ h => h) (Or.inl ⟨by rfl, ?_⟩) (by assumption) ?_
  case refine_2 =>
    intro w hSw
    try dsimp only at hSw
    go_simp
    try with_reducible rfl
  simp only [Act.put, List.setIfInBounds_toArray, List.set_cons_zero, List.set_cons_succ]
  refine wpAnyH_take (i := 9) (oi := { dst := some 23, op := _, type := _, pos := _, after := _, guard := _ }) (v := ?_) rfl (by kernel_rfl) (by kernel_rfl) (by kernel_rfl) (fun _ _ _ h => h) (Or.inl ⟨by rfl, ?_⟩) (by assumption) ?_
  case refine_2 =>
    intro w hSw
    try dsimp only at hSw
    go_simp
    try with_reducible rfl
  simp only [Act.put, List.setIfInBounds_toArray, List.set_cons_zero, List.set_cons_succ]
  refine wpAnyH_take (i := 10) (oi := { dst := some 24, op := _, type := _, pos := _, after := _, guard := _ }) (v := ?_) rfl (by kernel_rfl) (by kernel_rfl) (by kernel_rfl) (fun _ _ _ h => h) (Or.inl ⟨by rfl, ?_⟩) (by assumption) ?_
  case refine_2 =>
    intro w hSw
    try dsimp only at hSw
    go_simp
    try with_reducible rfl
  simp only [Act.put, List.setIfInBounds_toArray, List.set_cons_zero, List.set_cons_succ]
  refine wpAnyH_take (i := 11) (oi := { dst := some 25, op := _, type := _, pos := _, after := _, guard := _ }) (v := ?_) rfl (by kernel_rfl) (by kernel_rfl) (by kernel_rfl) (fun _ _ _ h => h) (Or.inl ⟨by rfl, ?_⟩) (by assumption) ?_
  case refine_2 =>
    intro w hSw
    try dsimp only at hSw
    go_simp
    try with_reducible rfl
  simp only [Act.put, List.setIfInBounds_toArray, List.set_cons_zero, List.set_cons_succ]
  refine wpAnyH_take (i := 12) (oi := { dst := some 26, op := _, type := _, pos := _, after := _, guard := _ }) (v := ?_) rfl (by kernel_rfl) (by kernel_rfl) (by kernel_rfl) (fun _ _ _ h => h) (Or.inl ⟨by rfl, ?_⟩) (by assumption) ?_
  case refine_2 =>
    intro w hSw
    try dsimp only at hSw
    go_simp
    try with_reducible rfl
  simp only [Act.put, List.setIfInBounds_toArray, List.set_cons_zero, List.set_cons_succ]
  refine wpAnyH_ready (rs := [3]) (by kernel_rfl) (by simp) ?_
  refine AllReadyH.cons (o := { dst := some 17, op := _, type := _, pos := _, after := _, guard := _ }) rfl (fun K hK => ?_) AllReadyH.nil
  refine step_enterH rfl (by simp [Act.eval, ent0, go_sem]) (((unhide HCY) _ (Below.drew (Below.refl _ _))).mono ?_)
  rintro e w1 ⟨rfl, hb1⟩
  have k7 := cellk hb1 c7 (cell_lt c7)
  have HB1 := hide hb1
  clear hb1
  refine hK.out _ _ k7 (fun hHeld3 => ?_)
  clear hK K
  simp only [Act.put, List.setIfInBounds_toArray, List.set_cons_zero, List.set_cons_succ]
  refine wpAnyH_ready (rs := [7]) (by kernel_rfl) (by simp) ?_
  refine AllReadyH.cons (o := { dst := some 21, op := _, type := _, pos := _, after := _, guard := _ }) rfl (fun K hK => ?_) AllReadyH.nil
  refine step_enterH rfl (by simp [Act.eval, ent3, go_sem]) (((unhide HCO) _ ((Below.drew (Below.refl _ _)).trans (unhide HB1))).mono ?_)
  rintro e w2 ⟨rfl, hb2⟩
  have k8 := cellk hb2 k7 (cell_lt k7)
  have HB2 := hide hb2
  clear hb2
  refine hK.out _ _ k8 (fun hHeld7 => ?_)
  clear hK K
  simp only [Act.put, List.setIfInBounds_toArray, List.set_cons_zero, List.set_cons_succ]
  refine wpAnyH_take (i := 8) (oi := { dst := some 22, op := _, type := _, pos := _, after := _, guard := _ }) (v := ?_) rfl (by kernel_rfl) (by kernel_rfl) (by kernel_rfl) (fun _ _ _ h => h) (Or.inl ⟨by rfl, ?_⟩) (by assumption) ?_
  case refine_2 =>
    intro w hSw
    try dsimp only at hSw
    go_simp
    try with_reducible rfl
  simp only [Act.put, List.setIfInBounds_toArray, List.set_cons_zero, List.set_cons_succ]
  refine wpAnyH_take (i := 13) (oi := { dst := some 27, op := _, type := _, pos := _, after := _, guard := _ }) (v := ?_) rfl (by kernel_rfl) (by kernel_rfl) (by kernel_rfl) (fun _ _ _ h => h) (Or.inl ⟨by rfl, ?_⟩) (by assumption) ?_
  case refine_2 =>
    intro w hSw
    try dsimp only at hSw
    go_simp
    try with_reducible rfl
  simp only [Act.put, List.setIfInBounds_toArray, List.set_cons_zero, List.set_cons_succ]
  refine wpAnyH_done (by kernel_rfl) ?_ _
  go_wp2_with fail
  have hbw : Below w.heap.size w w2 := ((Below.drew (Below.refl _ _)).trans (unhide HB1)).trans ((unhide HB2).mono (unhide HB1).size)
  have HG2 := hide ((unhide H).keep hbw)
  have HR2 := hide ((unhide HR).keep hbw)
  have HBW := hide hbw
  clear hbw k7 k8 hHeld hHeld3 hHeld7 hwr hrm c7
  refine (leave_any ((unhide HG2).at'.young (unhide HG2).few) (by have := (unhide HG2).cnt; omega)).mono ?_
  rintro e w3 ⟨rfl, rfl⟩
  have hz3 := leftW_size w2 hp 0 P.Y.length
  go_wp2_with fail
  refine (newMover_any _ hp 3 (w2.heap.size + 2) 1 1).mono ?_
  rintro e w4 ⟨rfl, hw4⟩
  have hz4 : ((leftW w2 hp 0 P.Y.length).alloc (.cells #[.pointer (some ⟨w2.heap.size + 1, 0, none⟩)] 65)).heap.size = w2.heap.size + 3 := by simp [hz3]
  have hw4' : w4 = minW w2 hp P.Y.length := hw4
  have hm4 : MvAt B w4 (minB w2 hp vyo vyf) (minM P) (hpCells P vyo vyf voo vof vn mb) 51 voo vof := by rw [hw4']; exact minor_begin (unhide HG2)
  have hb4 : Below w2.heap.size w2 w4 := by rw [hw4']; exact minW_below _ _ _
  have hs4 : w4.heap.size = w2.heap.size + 5 := by rw [hw4']; simp [minW, moverW, hz3]
  have HM4 := hide hm4
  have HB4 := hide hb4
  have HG4 := hide ((unhide HG2).keep hb4)
  have HR4 := hide ((unhide HR2).keep hb4)
  have HS4 := hide hs4
  obtain ⟨gof, cof, hvof⟩ := owns_form (unhide HG4).at'.of'
  have d5 : w4.cell? ⟨hp, 5, none⟩ = some (.slice gof (allF P.O).length cof) := by rw [← hvof]; exact hcell (unhide HG4).at'.blk 5
  obtain ⟨gvn, cvn, hvn⟩ := owns_form (unhide HG4).at'.nt
  have d8 : w4.cell? ⟨hp, 8, none⟩ = some (.slice gvn 0 cvn) := by
    have q := hcell (unhide HG4).at'.blk 8
    rw [unhide HNO] at hvn
    rw [q, show (hpCells P vyo vyf voo vof vn mb)[8]? = some vn from rfl, hvn]
    rfl
  rw [hz4]
  clear hw4 hw4' hm4 hb4 hs4 hz3 hz4 hvof hvn
  go_wp2_with fail
  go_loopg [50] 0 (fun gg iv wx => iv = .int .i64 0 ∧ wx = w4)
  case atStart => exact ⟨rfl, rfl⟩
  case round =>
    obtain ⟨rfl, rfl⟩ := hrel
    clear d5 d8
    go_wp2_with fail
    have HFIT := hide (min_fit (unhide HG2) (unhide HR2) (unhide HB4))
    have HIN0 := hide (MInv.start (M := minM P) (min_fresh P) (by have := (unhide HG2).two; simp only [minM]; omega))
    have HCP0 := hide (min_cap (unhide HG2))
    refine (roots_any (unhide HM4) (unhide HCP0) (unhide HIN0) (unhide HR4).rt (unhide HFIT).out (unhide HR4).n64 (unhide HR4).few cap).mono ?_
    rintro e w5 ⟨rfl, hF5, cs5, vt5, vf5, hM5, a5, b5⟩
    obtain ⟨hI5, hL5, hft5, hT5, hp5, hW5⟩ := (unhide HIN0).roots (rootVs l)
    have hC5 := Cap.roots (rootVs l) (unhide HCP0) (unhide HIN0) (fun v hv => by
      unfold rootVs at hv
      obtain ⟨r, hr1, hr2⟩ := List.mem_filterMap.1 hv
      cases r with
      | none => cases hr2
      | some z =>
        obtain ⟨rb, ro, u⟩ := z
        cases hr2
        exact (unhide HR4).n64 rb ro _ hr1)
    have HF5 := hide hF5
    have HM5 := hide hM5
    have HI5 := hide hI5
    have HC5 := hide hC5
    have HL5 := hide hL5
    have HW5 := hide hW5
    have HA5 := hide a5
    have HB5 := hide b5
    have HFT5 := hide hft5
    have HP5 := hide hp5
    have HT5 := hide hT5
    clear hF5 hM5 hI5 hC5 hL5 hW5 a5 b5 hft5 hT5 hp5
    go_wp2_with fail
    refine (rest_any (unhide HM5) (unhide HC5) (unhide HI5)).mono ?_
    rintro e w6 ⟨rfl, hF6, cs6, vt6, vf6, hM6, a6, b6⟩
    obtain ⟨hI6, hL6, hft6, ⟨r6, hr6⟩, hg6⟩ := (unhide HI5).rest (pot (rootsM (minM P) (rootVs l)) - (allF (minM P).T).length) (by omega)
    have hC6 := Cap.rest (pot (rootsM (minM P) (rootVs l)) - (allF (minM P).T).length) (unhide HC5) (unhide HI5)
    have hLL := (unhide HL5).trans hL6
    have hFF := (unhide HF5).trans hF6 (unhide HA5) (unhide HB5)
    have aa := own_trans (unhide HA5) a6 (unhide HF5).size
    have bb := own_trans (unhide HB5) b6 (unhide HF5).size
    have hto : ToOut (restM (pot (rootsM (minM P) (rootVs l)) - (allF (minM P).T).length) (rootsM (minM P) (rootVs l)) (allF (minM P).T).length) := fun t _ => by
      rw [hLL.leads, show _ = (minM P).ft from hft6.trans (unhide HFT5)]
      exact min_out (unhide HG2) t
    have hwn : ∀ rb ro v, some (rb, ro, v) ∈ l → Went (restM (pot (rootsM (minM P) (rootVs l)) - (allF (minM P).T).length) (rootsM (minM P) (rootVs l)) (allF (minM P).T).length).L v := fun rb ro v hv => hL6.went (unhide HW5 v (by
      unfold rootVs
      exact List.mem_filterMap.2 ⟨_, hv, rfl⟩))
    have hhdr : ∃ r, (restM (pot (rootsM (minM P) (rootVs l)) - (allF (minM P).T).length) (rootsM (minM P) (rootVs l)) (allF (minM P).T).length).T.map hdr = P.O.map hdr ++ r := by
      obtain ⟨r5, q5⟩ := unhide HT5
      exact ⟨r5.map hdr ++ r6, by rw [hr6, q5, List.map_append, List.append_assoc]; rfl⟩
    have hold : ∀ i, i < (allF P.O).length → (allF (restM (pot (rootsM (minM P) (rootVs l)) - (allF (minM P).T).length) (rootsM (minM P) (rootVs l)) (allF (minM P).T).length).T)[i]? = (allF P.O)[i]? := fun i hi => by
      obtain ⟨r5, q5⟩ := unhide HT5
      rw [hg6 i hi, q5, show allF ((minM P).T ++ r5) = allF P.O ++ allF r5 by simp [allF, minM], List.getElem?_append_left hi]
    have hft : (restM (pot (rootsM (minM P) (rootVs l)) - (allF (minM P).T).length) (rootsM (minM P) (rootVs l)) (allF (minM P).T).length).ft = P.fo := by rw [hft6, unhide HFT5]; rfl
    clear hr6 hg6 hft6
    have hM6e : restM (pot (rootsM (minM P) (rootVs l)) - (allF (minM P).T).length) (rootsM (minM P) (rootVs l)) (allF (minM P).T).length = restM (pot (rootsM (minM P) (rootVs l)) - (allF P.O).length) (rootsM (minM P) (rootVs l)) (allF P.O).length := by rw [show (minM P).T = P.O from rfl]
    have HM6E := hide hM6e
    clear hM6e
    generalize restM (pot (rootsM (minM P) (rootVs l)) - (allF (minM P).T).length) (rootsM (minM P) (rootVs l)) (allF (minM P).T).length = M6 at *
    obtain ⟨w7, hw7⟩ : ∃ w7, w6.alloc (.cells #[.pointer (some ⟨w2.heap.size + 1, 0, none⟩)] 65) = w7 := ⟨_, rfl⟩
    have hb7 : Below w6.heap.size w6 w7 := by rw [← hw7]; exact (Below.refl _ _).alloc (Nat.le_refl _) _
    obtain ⟨p0, hp0, hpf, hpl, hst⟩ := min_st (unhide HG2) (unhide HB4) (unhide HR2) hFF hM6 aa bb hw7.symm
    have HM7 := hide (hM6.keep hb7)
    have HFIT7 := hide (((unhide HFIT).later hFF aa bb).alloc hb7 (hlt hM6.tpart.blk))
    have HRT7 : Hid (RtAt w7 g l) := by
      have q := (unhide HR4).rt.same (unhide HFIT).out hFF
      refine ⟨fun k r hk => ?_, fun rb ro v hv => ?_⟩
      · obtain ⟨gb, go, e, hc⟩ := q.at' k r hk
        exact ⟨gb, go, e, cellk hb7 hc (cell_lt (a := ⟨gb, go + k, none⟩) hc)⟩
      · obtain ⟨x, y, z⟩ := q.val rb ro v hv
        exact ⟨cellk hb7 x (cell_lt x), cellk hb7 y (cell_lt y), cellk hb7 z (cell_lt z)⟩
    have HI7 := hide hI6
    have HC7 := hide hC6
    have HTO7 := hide hto
    have HWN7 := hide hwn
    have HST7 := hide hst
    have hids : ∀ q x, objAt M6.L q = some x → I64 x.id := fun q x hq => by
      rw [hLL.objs] at hq
      have hx : x ∈ P.Y ++ P.O := by
        unfold objAt minM at hq
        obtain ⟨i, k⟩ := q
        match i with
        | 0 => exact List.mem_append_left _ (List.mem_of_getElem? (by simpa using hq))
        | i + 1 => simp at hq
      exact ((unhide HG2).vals x hx).1
    have HIDS7 := hide hids
    have hcnt : n + cntObjs M6.L ≤ 1000000000 := by
      rw [hp0]
      have := (unhide HG2).cnt
      simp [cntObjs, hpl]
      omega
    have HCNT7 := hide hcnt
    have HLL := hide hLL
    have HFF := hide hFF
    have HAA := hide aa
    have HBB := hide bb
    have HB7 := hide hb7
    have HHDR := hide hhdr
    have HOLD := hide hold
    have HFTM := hide hft
    clear hI6 hL6 hC6 hLL hFF aa bb hto hwn hF6 hM6 a6 b6 hb7 hids hcnt hst hhdr hold hft
    go_wp2_with fail
    refine (settle_any (c2 := 1) (unhide HM7) (unhide HC7) (unhide HI7) (unhide HTO7) (unhide HRT7) (unhide HFIT7) (unhide HR4).n64 (unhide HWN7) (unhide HR4).few cap (unhide HST7) (unhide HIDS7) (unhide HCNT7)).mono ?_
    rintro e w8 ⟨rfl, wl, csl, vtl, vfl, hcs, T', n', s1, s2, s3, s4, s5, s6, s7, s8, s9, s10, s11, s12, s13, s14, s15⟩
    have hpT : hcs = csl ∧ T' = 51 := by
      have q : wl.heap[hp]? = some (.cells csl 51 (0, 0)) := s3.tpart.blk
      rw [s6] at q
      cases q
      exact ⟨rfl, rfl⟩
    obtain ⟨rfl, rfl⟩ := hpT
    have nrt : ¬ rootB l hp := (unhide HST7).hr
    have hd : ∀ c, c < 4 ∨ 5 < c → wl.cell? ⟨hp, c, none⟩ = (hpCells P vyo vyf voo vof vn mb)[c]? := fun c hc => by
      have q1 : wl.cell? ⟨hp, c, none⟩ = w7.cell? ⟨hp, c, none⟩ := s2.head nrt c (by show c < 4 ∨ 5 < c; exact hc)
      have q2 : w6.cell? ⟨hp, c, none⟩ = wr.cell? ⟨hp, c, none⟩ := (unhide HFF).head c (by show c < 4 ∨ 5 < c; exact hc)
      have hl6 : hp < w6.heap.size := Nat.lt_of_lt_of_le (hlt (unhide HG4).at'.blk) (unhide HFF).size
      rw [q1, (unhide HB7).cell (p := ⟨hp, c, none⟩) hl6, q2]
      exact hcell (unhide HG4).at'.blk c
    have c11 : wl.cell? ⟨hp, 11, none⟩ = some (.int .i64 P.minors) := hd 11 (by omega)
    have d11 : w8.cell? ⟨hp, 11, none⟩ = some (.int .i64 P.minors) := by
      rw [hcell s10]
      simp only [Array.getElem?_setIfInBounds]
      rw [hcell s6] at c11
      simpa using c11
    have z11 : w8.frozen? ⟨hp, 11, none⟩ = false := hfroz s10 11
    have S1 := hide s1
    have S2 := hide s2
    have S3 := hide s3
    have S4 := hide s4
    have S5 := hide s5
    have S6 := hide s6
    have S8 := hide s8
    have S9 := hide s9
    have S10 := hide s10
    have S11 := hide s11
    have S12 := hide (⟨s12, s13, s14, s15⟩ : wl.heap.size ≤ w8.heap.size ∧ w8.os = wl.os ∧ w8.tape = wl.tape ∧ w8.output = wl.output)
    have HD := hide hd
    clear s1 s2 s3 s4 s5 s6 s8 s9 s10 s11 s12 s13 s14 s15 hd c11
    go_wp2_with fail
    go_ret
    have z1 : w.heap.size ≤ w2.heap.size := (unhide HBW).size
    have z2 : w2.heap.size ≤ wr.heap.size := (unhide HB4).size
    have z3 : wr.heap.size ≤ w6.heap.size := (unhide HFF).size
    have z4 : w6.heap.size ≤ w7.heap.size := (unhide HB7).size
    have z5 : w7.heap.size ≤ wl.heap.size := (unhide S2).size
    obtain ⟨es, cl, hm7, _⟩ := (unhide HST7).own
    have tH7 : Typ w7 hp 51 := (unhide HM7).tb_ty
    have keepw : ∀ (x : Value) k, k < wl.heap.size → k ≠ mb → k ≠ hp → (w8.setCell ⟨hp, 11, none⟩ x).heap[k]? = wl.heap[k]? := fun x k hk h1 h2 => (hother x h2).trans (unhide S11 k hk h1 h2)
    have tv : ∀ k t, Typ w7 k t → t ≠ 51 → k ≠ mb ∧ k ≠ hp ∧ k < wl.heap.size := fun k t hk hne => ⟨not_map hm7 hk, hk.ne tH7 hne, Nat.lt_of_lt_of_le hk.lt z5⟩
    have tl : ∀ k t, Typ wl k t → t ≠ 51 → k ≠ mb ∧ k ≠ hp ∧ k < wl.heap.size := fun k t hk hne => by
      have hml : wl.heap[mb]? = some (.map es cl) := ((unhide S2).block mb (unhide HST7).mo (unhide HST7).mr).trans hm7
      exact ⟨not_map hml hk, hk.ne ⟨_, _, unhide S6⟩ hne, hk.lt⟩
    refine ⟨rfl, M6, n', vtl, vfl, wrap64 (P.minors + 1), unhide HI7, unhide HC7, unhide HLL, unhide HFTM, unhide HM6E, unhide HHDR, unhide HOLD, unhide HWN7, ⟨fun k r hk => ?_, fun rb ro v hv => ?_, fun rb ro v hv => ?_⟩, ⟨?_, World.ownsRow_nil _ _ _ _, World.ownsRow_nil _ _ _ _, ?_, ?_, World.ownsRow_nil _ _ _ _⟩, ?_, ?_, ?_, ?_, fun k hk h1 h2 h3 h4 h5 => ?_, ?_, ?_, ?_, ?_⟩
    · obtain ⟨gb, go, e, hc⟩ := (unhide S1).at' k r hk
      have ht := (unhide HFIT7).gt gb go e (by have := (List.getElem?_eq_some_iff.1 hk).1; omega)
      obtain ⟨a1, a2, a3⟩ := tv gb _ ht (by decide)
      exact ⟨gb, go, e, (World.cell?_of_block (keepw _ gb a3 a1 a2)).trans hc⟩
    · obtain ⟨a1, a2, a3⟩ := tv rb _ ((unhide HFIT7).ty rb ro v hv) (by decide)
      obtain ⟨x, y, z⟩ := (unhide S1).val rb ro v hv
      exact ⟨(World.cell?_of_block (keepw _ rb a3 a1 a2)).trans x, (World.cell?_of_block (keepw _ rb a3 a1 a2)).trans y, (World.cell?_of_block (keepw _ rb a3 a1 a2)).trans z⟩
    · obtain ⟨a1, a2, a3⟩ := tv rb _ ((unhide HFIT7).ty rb ro v hv) (by decide)
      obtain ⟨c, hc⟩ := (unhide S1).fz rb ro v hv
      exact ⟨c, (keepw _ rb a3 a1 a2).trans hc⟩
    · rw [hset (unhide S10)]
      congr 1
      apply congrArg (fun z => Obj.cells z 51 (0, 0))
      have hsz : hcs.size = 13 := (unhide S3).szn
      refine size13 (by simp [hsz]) rfl (fun c hc => ?_)
      have g4 : hcs[4]? = some vtl := (unhide S3).tpart.e1
      have g5 : hcs[5]? = some vfl := (unhide S3).tpart.e2
      have gg : ∀ c, c < 4 ∨ 5 < c → hcs[c]? = (hpCells P vyo vyf voo vof vn mb)[c]? := fun c hc => by
        rw [← hcell (unhide S6)]
        exact unhide HD c hc
      simp only [Array.getElem?_setIfInBounds, Array.size_setIfInBounds, hsz]
      match c, hc with
      | 0, _ => simp [hpCells, minP, hpf, hpl]
      | 1, _ => simp [hpCells]
      | 2, _ => simp [hpCells]
      | 3, _ => simpa [hpCells, minP] using gg 3 (by omega)
      | 4, _ => simpa [hpCells] using g4
      | 5, _ => simpa [hpCells] using g5
      | 6, _ => simpa [hpCells, minP] using gg 6 (by omega)
      | 7, _ => simpa [hpCells, minP] using gg 7 (by omega)
      | 8, _ => simp [hpCells]
      | 9, _ => simpa [hpCells, minP] using gg 9 (by omega)
      | 10, _ => simpa [hpCells, minP] using gg 10 (by omega)
      | 11, _ => simp [hpCells, minP]
      | 12, _ => simpa [hpCells, minP] using gg 12 (by omega)
    · exact owns_move (unhide S3).tpart.objs (fun j hj => by
        obtain ⟨a1, a2, a3⟩ := tl j _ (owns_ty (unhide S3).tpart.objs hj) (by decide)
        exact keepw _ j a3 a1 a2)
    · exact owns_move (unhide S3).tpart.flds (fun j hj => by
        obtain ⟨a1, a2, a3⟩ := tl j _ (owns_ty (unhide S3).tpart.flds hj) (by decide)
        exact keepw _ j a3 a1 a2)
    · obtain ⟨e8, c8, h8, r8⟩ := unhide S8
      have hne : mb ≠ hp := fun e => by
        have q := unhide S10
        rw [← e, h8] at q
        cases q
      exact ⟨e8, c8, (hother _ hne).trans h8, r8⟩
    · have := unhide S9
      rw [hp0] at this
      simp [hpl] at this
      exact this
    · exact (own_trans (unhide HAA) (unhide S4) (by omega)).imp id (fun q j hj => by have := q j hj; omega)
    · exact (own_trans (unhide HBB) (unhide S5) (by omega)).imp id (fun q j hj => by have := q j hj; omega)
    · have o4 : Out (minB w2 hp vyo vyf) voo vof wr k := ⟨by omega, h1, fun b hb' e => by
        simp [minB] at hb'
        subst hb'
        have e : w2.heap.size = k := e
        omega, h3, h4⟩
      have o7 : Out (minB w2 hp vyo vyf) vt6 vf6 w7 k := (o4.later (unhide HFF).size (unhide HAA) (unhide HBB)).later z4 (Or.inl rfl) (Or.inl rfl)
      rw [keepw _ k (by omega) h2 h1, (unhide S2).block k o7 h5, (unhide HB7).block k (by omega), o4.same (unhide HFF), (unhide HB4).block k (by omega)]
      exact (unhide HBW).block k hk
    · have := (unhide S12).1
      simp [World.setCell]
      omega
    · exact (unhide S12).2.1.trans ((unhide S2).os.trans ((unhide HB7).os.trans ((unhide HFF).os.trans ((unhide HB4).os.trans (unhide HBW).os))))
    · exact (unhide S12).2.2.1.trans ((unhide S2).tape.trans ((unhide HB7).tape.trans ((unhide HFF).tape.trans ((unhide HB4).tape.trans (unhide HBW).tape))))
    · exact (unhide S12).2.2.2.trans ((unhide S2).output.trans ((unhide HB7).output.trans ((unhide HFF).output.trans ((unhide HB4).output.trans (unhide HBW).output))))
end Go.Proofs.Ytddfdefgdlfpmaa
