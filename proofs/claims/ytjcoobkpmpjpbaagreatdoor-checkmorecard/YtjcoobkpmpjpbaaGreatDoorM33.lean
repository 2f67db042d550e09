/-
  Fields of the classes above, then of a class itself: what is put together, and what stays.
-/
import Derived.Test.YtjcoobkpmpjpbaaGreatDoorM32
import Derived.RangeFuncWrites
namespace Go.Proofs.YtjcoobkpmpjpbaaGreatDoor
open Go.RowKit Go.Maps Go.Shelf
set_option linter.unusedVariables false

set_option maxRecDepth 100000 in
set_option maxHeartbeats 4000000 in
theorem down_any (hp : Nat) (i : Int) (w : World) : Calls Tryz.prog 40 #[.pointer (some ⟨hp, 0, none⟩), .int .i64 i] w fun e w' => e = .returned (.func (.func 69) #[] #[.pointer (some ⟨w.heap.size + 1, 0, none⟩), .pointer (some ⟨w.heap.size, 0, none⟩)]) ∧ w' = (w.alloc (.cells #[.pointer (some ⟨hp, 0, none⟩)] 43)).alloc (.cells #[.int .i64 i] 3) := by
  have hmf : ∀ (fn : Fn) (first cap : Array Value) (w : World), (Instr.makeFunc fn first cap).run Tryz.prog w = .ok (.func fn first cap) w := fun _ _ _ _ => rfl
  go_enter Tryz.func40, Tryz.ntmps40
  go_wp2_with fail
  go_ret
  exact ⟨rfl, rfl⟩

set_option maxRecDepth 100000 in
set_option maxHeartbeats 4000000 in
theorem blamed_any {M : Nat} {w : World} {hp nb : Nat} {vcl vfn : Value} {cs fns : List Tree} (h : HdAt M w hp nb vcl vfn cs fns) {bn : Nat} {t : Tree} (hn : NodeAt (fun k => k < M) w (.pointer (some ⟨bn, 0, none⟩)) t) (j : Nat) {i : Nat} {c : Tree} (hc : cs[i]? = some c) :
    Calls Tryz.prog 41 #[.pointer (some ⟨hp, 0, none⟩), .pointer (some ⟨bn, 0, none⟩), .int .i64 (j : Int), .int .i64 (i : Int)] w fun e w' => (∃ (b ln : Nat), e = .returned (.pointer (some ⟨b, 0, none⟩)) ∧ w.cell? ⟨b, 4, none⟩ = some (.int .i64 ln)) ∧ w = w' := by
  have b0 : w.cell? ⟨hp, 0, none⟩ = some vcl := hcell h.blk 0
  obtain ⟨g, cap, rfl, hmax, hat⟩ := h.cls
  obtain ⟨a, bc, rfl, ha, k0, hnc⟩ := hat i c hc
  obtain ⟨ks, hv⟩ := node_view hnc
  obtain ⟨ks2, hv2⟩ := node_view hn
  have e4 := hide hv.c4
  have f4 := hide hv2.c4
  have hi := (List.getElem?_eq_some_iff.1 hc).1
  obtain ⟨L, hL⟩ : ∃ L, cs.length = L := ⟨_, rfl⟩
  rw [hL] at b0 hi
  have hi2 : (i : Int) < (L : Int) := by omega
  clear h hat hnc hn hv hv2 hc hL hmax ha
  by_cases q : j = i
  · subst q
    go_enter Tryz.func41, Tryz.ntmps41
    go_wp2_with fail
    go_ret
    exact ⟨⟨bn, _, rfl, unhide f4⟩, rfl⟩
  · have q1 : ((j : Int) == (i : Int)) = false := by simpa using fun e : (j : Int) = i => q (by omega)
    have q2 : ¬ ((j : Int) = (i : Int)) := fun e => q (by omega)
    go_enter Tryz.func41, Tryz.ntmps41
    go_wp2_with fail
    go_ret
    exact ⟨⟨bc, _, rfl, unhide e4⟩, rfl⟩
/-- A name more, where there may be many. -/
theorem NamesAt.putG {w : World} {b : Nat} {o : List ByteArray} (h : NamesAt w b o) {s : ByteArray} (hs : s.size ≤ 300) (hn : o.length ≤ 100000000000000) :
    ∃ w', (Go.Instr.mapUpdate 66 (.map (some b)) (.string s) (.agg #[])).run Tryz.prog w = .ok () w' ∧ NamesAt w' b (s :: o) ∧ w.grownBy w' (some b) := by
  obtain ⟨D, h1, h2⟩ := h
  obtain ⟨w', hrun, hown, hg⟩ := h1.update keyStr Tryz.underlying66 (by unfold maxLen; omega) (sl_key hs) unitElem_mk
  refine ⟨w', hrun, ⟨_, hown, fun t => ?_⟩, hg⟩
  unfold hasName
  rw [List.any_cons]
  by_cases e : s = t
  · subst e
    rw [Maps.has_put_same h1.isMap (sl_lit s)]
    simp
  · rw [Maps.has_put_other (sl_ne (fun q => e q.symm)), h2 t]
    simp [hasName, e]

set_option maxRecDepth 100000 in
set_option maxHeartbeats 2000000 in
theorem add_nameG {w : World} {b : Nat} {o : List ByteArray} (h : NamesAt w b o) {s : ByteArray} (hs : s.size ≤ 300) (hn : o.length ≤ 100000000000000) : Calls Tryz.prog 23 #[.map (some b), .string s] w fun e w' => AddPost w b o s e w' := by
  have HN := hide h
  have lk := h.look hs
  by_cases hh : hasName o s = true
  · rw [hh] at lk
    have HH := hide hh
    clear h hh
    go_enter Tryz.func23, Tryz.ntmps23
    go_wp2_with fail
    go_ret
    have hb := fun o => (Below.refl w.heap.size w).alloc (Nat.le_refl _) o
    refine ⟨by rw [unhide HH]; rfl, ?_, ?_⟩
    · rw [if_pos (unhide HH)]
      exact (unhide HN).move ((hb _).block _ (unhide HN).lt)
    · exact ⟨(hb _).os, (hb _).tape, (hb _).output, (hb _).size, fun k hk _ => (hb _).block k hk⟩
  · have hh' : hasName o s = false := by simpa using hh
    rw [hh'] at lk
    have HH := hide hh'
    have hb := fun o => (Below.refl w.heap.size w).alloc (Nat.le_refl _) o
    obtain ⟨w2, hput, hn2, hg2⟩ := (h.move ((hb (.cells #[] 101)).block _ h.lt)).putG hs hn
    have HN2 := hide hn2
    have HG2 := hide (show w.grownBy w2 (some b) from ⟨hg2.os.trans (hb _).os, hg2.tape.trans (hb _).tape, hg2.output.trans (hb _).output, Nat.le_trans (hb _).size hg2.size, fun k hk hne => (hg2.block k (Nat.lt_of_lt_of_le hk (hb _).size) hne).trans ((hb _).block k hk)⟩)
    clear h hh hh' hn2 hg2 hb
    go_enter Tryz.func23, Tryz.ntmps23
    go_wp2_with fail
    go_ret
    exact ⟨by rw [unhide HH]; rfl, by rw [if_neg (by rw [unhide HH]; decide)]; exact unhide HN2, unhide HG2⟩

theorem infoStr : (Tryz.prog.info? 9).map (fun i => (i.zero, i.size, i.bytes)) = some (some (.string ByteArray.empty), 1, 16) := by kernel_rfl
theorem names_map {w : World} {b : Nat} {o : List ByteArray} (h : NamesAt w b o) : ∃ es c, w.heap[b]? = some (.map es c) := by
  obtain ⟨D, ⟨es, clock, h1, h2⟩, h3⟩ := h
  exact ⟨_, _, h1⟩
/-- What a step of the loop's body leaves. -/
structure Stp (B : Nat) (W W' : World) : Prop where
  kf : KeepsFrom B W W'
  ki : KInt W W'
theorem Stp.refl (B : Nat) (W : World) : Stp B W W := ⟨KeepsFrom.refl _ _, KInt.refl _⟩
theorem Stp.trans {B : Nat} {X Y Z : World} (h : Stp B X Y) (k : Stp B Y Z) : Stp B X Z := ⟨h.kf.trans k.kf, h.ki.trans k.ki⟩
theorem Stp.below {B : Nat} {W W' : World} (h : Below W.heap.size W W') : Stp B W W' := ⟨⟨h.size, fun k o _ hk _ => (h.block k (Array.getElem?_eq_some_iff.1 hk).1).trans hk⟩, fun k cs fr q => (h.block k (Array.getElem?_eq_some_iff.1 q).1).trans q⟩
theorem Stp.map {B : Nat} {W W' : World} {b : Nat} {o : List ByteArray} (hn : NamesAt W b o) (hb : b < B) (hg : W.grownBy W' (some b)) : Stp B W W' := by
  obtain ⟨es, c, hm⟩ := names_map hn
  refine ⟨KeepsFrom.of_grownBy hg (fun j e => by have := Option.some.inj e; omega), KInt.of_grown hg fun k cs fr e q => ?_⟩
  obtain rfl := Option.some.inj e
  rw [hm] at q
  cases q
theorem Stp.cells {B : Nat} {W W' : World} {row : Option Nat} (hg : W.grownBy W' row) (h : ∀ k, row = some k → ∃ cs t fr, W.heap[k]? = some (.cells cs t fr) ∧ t ≠ 3) : Stp B W W' := by
  refine ⟨⟨hg.size, fun k o _ hk ho => (hg.block k (Array.getElem?_eq_some_iff.1 hk).1 (fun e => ?_)).trans hk⟩, KInt.of_grown hg fun k cs fr e q => ?_⟩
  · obtain ⟨cs, t, fr, q, _⟩ := h k e.symm
    rw [hk] at q
    cases q
    cases ho
  · obtain ⟨cs2, t, fr2, q2, ht⟩ := h k e
    rw [q2] at q
    cases q
    exact ht rfl
theorem grown_setC (W : World) (b i : Nat) (v : Value) : W.grownBy (W.setCell ⟨b, i, none⟩ v) (some b) := ⟨rfl, rfl, rfl, by rw [size_set]; exact Nat.le_refl _, fun k _ hne => hother v (fun e => hne (by rw [e]))⟩
/-- The locals of fields: seven blocks, from N on; what came so far. -/
structure FI (w : World) (hp i : Nat) (o : List ByteArray) (m : Nat) (W : World) : Prop where
  bel : Below w.heap.size w W
  bh : W.heap[w.heap.size]? = some (.cells #[.pointer (some ⟨hp, 0, none⟩)] 43 (0, 0))
  bc : W.heap[w.heap.size + 1]? = some (.cells #[.int .i64 (i : Int)] 3 (0, 0))
  r1 : W.heap[w.heap.size + 2]? = some (.cells #[.slice none 0 0] 52 (0, 0))
  r2 : W.heap[w.heap.size + 3]? = some (.cells #[.nilIface] 28 (0, 0))
  bs : W.heap[w.heap.size + 6]? = some (.cells #[.map (some (w.heap.size + 5))] 66 (0, 0))
  names : NamesAt W (w.heap.size + 5) o
  ol : o.length ≤ m
  row : ∃ lv n xs, W.heap[w.heap.size + 4]? = some (.cells #[lv] 52 (0, 0)) ∧ W.ownsRow (w.heap.size + 7) 9 1 lv n xs ∧ n ≤ m
theorem FI.keep {w : World} {hp i : Nat} {o : List ByteArray} {m : Nat} {W W' : World} (h : FI w hp i o m W) (hb : Below w.heap.size w W') (hk : ∀ k, k < w.heap.size + 7 → W'.heap[k]? = W.heap[k]?) (hc : ∀ (k : Nat) (cs : Array Value) (fr : Nat × Nat), W.heap[k]? = some (.cells cs 9 fr) → W'.heap[k]? = W.heap[k]?) : FI w hp i o m W' := by
  obtain ⟨lv, n, xs, q1, q2, q3⟩ := h.row
  refine ⟨hb, (hk _ (by omega)).trans h.bh, (hk _ (by omega)).trans h.bc, (hk _ (by omega)).trans h.r1, (hk _ (by omega)).trans h.r2, (hk _ (by omega)).trans h.bs, h.names.move (hk _ (by omega)), h.ol, lv, n, xs, (hk _ (by omega)).trans q1, ⟨q2.1, ?_⟩, q3⟩
  rcases q2.2 with q | ⟨g, cap, cur, e1, e2, e3, e4⟩
  · exact Or.inl q
  · exact Or.inr ⟨g, cap, cur, e1, e2, (hc _ _ _ e3).trans e3, e4⟩
theorem FI.below {w : World} {hp i : Nat} {o : List ByteArray} {m : Nat} {W W' : World} (h : FI w hp i o m W) (hb : Below W.heap.size W W') : FI w hp i o m W' := by
  have hs := (Array.getElem?_eq_some_iff.1 h.bs).1
  exact h.keep (h.bel.trans (hb.mono h.bel.size)) (fun k hk => hb.block k (by omega)) (fun k cs fr q => hb.block k (Array.getElem?_eq_some_iff.1 q).1)
/-- A block turns that is no cells, and lies far. -/
theorem FI.own {w : World} {hp i : Nat} {o : List ByteArray} {m : Nat} {W W' : World} (h : FI w hp i o m W) {row : Option Nat} (hg : W.grownBy W' row) (hr : ∀ r, row = some r → w.heap.size + 9 ≤ r ∧ ∃ q : Obj, W.heap[r]? = some q ∧ q.isCells = false) : FI w hp i o m W' := by
  have hs := (Array.getElem?_eq_some_iff.1 h.bs).1
  refine h.keep (h.bel.grown hg h.bel.size (fun k hk => by have := (hr k hk).1; omega)) (fun k hk => hg.block k (by omega) (fun e => by have := (hr k e.symm).1; omega)) (fun k cs fr q => hg.block k (Array.getElem?_eq_some_iff.1 q).1 (fun e => ?_))
  obtain ⟨_, q2, h1, h2⟩ := hr k e.symm
  rw [q] at h1
  cases h1
  cases h2
theorem FI.mono {w : World} {hp i : Nat} {o : List ByteArray} {m m' : Nat} {W : World} (h : FI w hp i o m W) (hm : m ≤ m') : FI w hp i o m' W := by
  obtain ⟨lv, n, xs, q1, q2, q3⟩ := h.row
  exact ⟨h.bel, h.bh, h.bc, h.r1, h.r2, h.bs, h.names, Nat.le_trans h.ol hm, lv, n, xs, q1, q2, Nat.le_trans q3 hm⟩
theorem FI.add {w : World} {hp i : Nat} {o o' : List ByteArray} {m : Nat} {W W' : World} (h : FI w hp i o m W) (hg : W.grownBy W' (some (w.heap.size + 5))) (hn : NamesAt W' (w.heap.size + 5) o') (ho : o'.length ≤ m + 1) : FI w hp i o' (m + 1) W' := by
  have hs := (Array.getElem?_eq_some_iff.1 h.bs).1
  have hk : ∀ k, k < W.heap.size → k ≠ w.heap.size + 5 → W'.heap[k]? = W.heap[k]? := fun k h1 h2 => hg.block k h1 (fun e => h2 (Option.some.inj e))
  obtain ⟨lv, n, xs, q1, q2, q3⟩ := h.row
  refine ⟨h.bel.grown hg h.bel.size (fun k e => by have := Option.some.inj e; omega), (hk _ (by omega) (by omega)).trans h.bh, (hk _ (by omega) (by omega)).trans h.bc, (hk _ (by omega) (by omega)).trans h.r1, (hk _ (by omega) (by omega)).trans h.r2, (hk _ (by omega) (by omega)).trans h.bs, hn, ho, lv, n, xs, (hk _ (by omega) (by omega)).trans q1, ⟨q2.1, ?_⟩, by omega⟩
  rcases q2.2 with q | ⟨g, cap, cur, e1, e2, e3, e4⟩
  · exact Or.inl q
  · exact Or.inr ⟨g, cap, cur, e1, e2, (hk g (Array.getElem?_eq_some_iff.1 e3).1 (by omega)).trans e3, e4⟩
/-- A field more in the row. -/
theorem FI.app {w : World} {hp i : Nat} {o : List ByteArray} {m : Nat} {W w3 : World} (h : FI w hp i o m W) {lv : Value} {n : Nat} {xs : List Value} (hl : W.heap[w.heap.size + 4]? = some (.cells #[lv] 52 (0, 0))) (hrow : W.ownsRow (w.heap.size + 7) 9 1 lv n xs) {g cap : Nat} {ys : List Value} (hown : w3.ownsRow (w.heap.size + 7) 9 1 (.slice (some ⟨g, 0, none⟩) (n + 1) cap) (n + 1) ys) (hg : W.grownBy w3 lv.ownBlock) (hn : n + 1 ≤ m) :
    w3.heap[w.heap.size + 4]? = some (.cells #[lv] 52 (0, 0)) ∧ FI w hp i o m (w3.setCell ⟨w.heap.size + 4, 0, none⟩ (.slice (some ⟨g, 0, none⟩) (n + 1) cap)) ∧ Stp (w.heap.size + 9) W (w3.setCell ⟨w.heap.size + 4, 0, none⟩ (.slice (some ⟨g, 0, none⟩) (n + 1) cap)) := by
  have hs := (Array.getElem?_eq_some_iff.1 h.bs).1
  have hfar : ∀ k, lv.ownBlock = some k → w.heap.size + 7 ≤ k := fun k hk => owns_far hrow hk
  have hk3 : ∀ k, k < w.heap.size + 7 → w3.heap[k]? = W.heap[k]? := fun k hk => hg.block k (by omega) (fun e => by have := hfar k e.symm; omega)
  have h4 := (hk3 (w.heap.size + 4) (by omega)).trans hl
  have kS : ∀ k, k ≠ w.heap.size + 4 → (w3.setCell ⟨w.heap.size + 4, 0, none⟩ (.slice (some ⟨g, 0, none⟩) (n + 1) cap)).heap[k]? = w3.heap[k]? := fun k hk => hother _ hk
  have hkk : ∀ k, k < w.heap.size + 7 → k ≠ w.heap.size + 4 → (w3.setCell ⟨w.heap.size + 4, 0, none⟩ (.slice (some ⟨g, 0, none⟩) (n + 1) cap)).heap[k]? = W.heap[k]? := fun k h1 h2 => (kS k h2).trans (hk3 k h1)
  refine ⟨h4, ⟨(h.bel.grown hg h.bel.size (fun k hk => by have := hfar k hk; omega)).setCell (p := ⟨w.heap.size + 4, 0, none⟩) (by show w.heap.size ≤ w.heap.size + 4; omega) _, (hkk _ (by omega) (by omega)).trans h.bh, (hkk _ (by omega) (by omega)).trans h.bc, (hkk _ (by omega) (by omega)).trans h.r1, (hkk _ (by omega) (by omega)).trans h.r2, (hkk _ (by omega) (by omega)).trans h.bs, h.names.move (hkk _ (by omega) (by omega)), h.ol, _, n + 1, ys, by rw [hset h4]; rfl, ⟨hown.1, ?_⟩, hn⟩, ?_⟩
  · rcases hown.2 with q | ⟨g', cap', cur, e1, e2, e3, e4⟩
    · exact Or.inl q
    · exact Or.inr ⟨g', cap', cur, e1, e2, (kS g' (by omega)).trans e3, e4⟩
  · refine Stp.trans (Stp.cells hg fun k hk => ?_) (Stp.cells (grown_setC _ _ _ _) fun k hk => ?_)
    · rcases hrow.2 with ⟨q1, _⟩ | ⟨g', cap', cur, e1, e2, e3, e4⟩
      · rw [q1] at hk
        cases hk
      · rw [e1] at hk
        simp only [Value.ownBlock, Option.some.injEq] at hk
        subst hk
        exact ⟨_, _, _, e3, by decide⟩
    · obtain rfl := Option.some.inj hk
      exact ⟨_, _, _, h4, by decide⟩
/-- append as a step of a region that draws its order, in a round. -/
theorem stepIn_append {F : Fence} {n : Nat} {P : Program} {w : World} {ops : Array Oper} {o : Oper} {a : Act} {K : Act → World → Prop} {Q : Exit → Act → World → Prop} {E : Prop} (hgd : o.guard = none) (s x : Operand) (t : TypeId)
    (ho : o.op = .call { callee := .builtin .append, args := #[s, x], argTypes := #[t, t] })
    (base : Nat) (e : TypeId) (i : TypeInfo) (z : Value) (size bytes : Nat) (ht : P.underlying t = some (.slice e)) (hi : P.info? e = some i) (hz : i.zero = some z)
    (hsize : i.size = size) (hby : i.bytes = bytes) (hzs : z.cells.size = size) (hsz : 0 < size)
    (v : Value) (k : Nat) (xs : List Value) (hs : a.eval s = v) (hown : w.ownsRow base e size v k xs)
    (ad : Addr) (m c : Nat) (news : List Value) (hx : a.eval x = .slice (some ad) m c) (hl : news.length = m * size) (hnews : ∀ j u, news[j]? = some u → w.cell? (ad.add j) = some u) (h1 : ∀ u ∈ news, u.oneCell' = true)
    (hm : 0 < m) (h63 : k + m ≤ maxLen) (hbytes : (k + m) * bytes ≤ 140737488355328) (hbase : base ≤ w.heap.size)
    (h : ∀ g cap w', w'.ownsRow base e size (.slice (some ⟨g, 0, none⟩) (k + m) cap) (k + m) (xs ++ news) → w.grownBy w' v.ownBlock → K (a.put o.dst (.slice (some ⟨g, 0, none⟩) (k + m) cap)) w') :
    if Region.wanted o (yielded ops a.tmps) = true then Oper.wpIn F n P o a w K Q else E := by
  have hw : Region.wanted o (yielded ops a.tmps) = true := by simp [Region.wanted, hgd]
  rw [if_pos hw]
  obtain ⟨g, cap, w', hr, h2, h3, _, _⟩ := run_append_lies (P := P) w t o.type base e i z size bytes ht hi hz hsize hby hzs hsz v k xs hown ad m c news hl hnews h1 hm h63 hbytes hbase _ rfl
  unfold Oper.wpIn
  refine ⟨?_, ?_⟩
  · simp [Oper.about, ho, resolve, Target.leads, Sem.run_pure]
  · rw [Oper.semAt_plain F _ _ (by rw [ho]; intro c hc'; cases hc')]
    simp [execOp, ho, resolve, invoke, builtin, hs, hx, hr, Result.andThen]
    exact h g cap w' h2 h3
def fldF (l : List Tree) : List ByteArray := textsOf (l.filter fun t => t.kind == 3)
theorem fldF_cons {t : Tree} {l : List Tree} : fldF (t :: l) = if t.kind = 3 then t.text :: fldF l else fldF l := field_cons
end Go.Proofs.YtjcoobkpmpjpbaaGreatDoor
