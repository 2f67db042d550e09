/-
  Bytes are written: the row that grows.
  Numbers are written.
  Texts are written.
-/
import Derived.Test.YtkafldkhmkdafaaDoorM18
import Derived.ArgAppend
import Derived.Lib.AppendStr
namespace Go.Proofs.YtkafldkhmkdafaaDoor
open Go.RowKit

def bv (n : Int) : Value := .int .u8 n
/-- The row of bytes that were written: the call's own, or the mark, as it was laid. -/
def RowB (o : Bool) (w : World) (B : Nat) (v : Value) (bs : List Int) : Prop :=
  w.ownsRow B 5 1 v bs.length (bs.map bv) ∨ (o = false ∧ ∃ g, v = .slice (some ⟨g, 0, none⟩) 4 4 ∧ B ≤ g ∧ w.heap[g]? = some (.cells #[bv 82, bv 87, bv 78, bv 68] 5 (4, 5)) ∧ bs = [82, 87, 78, 68])
theorem RowB.block {o : Bool} {w : World} {B : Nat} {v : Value} {bs : List Int} (h : RowB o w B v bs) : ∀ j, v.ownBlock = some j → B ≤ j ∧ ∃ cs fr, w.heap[j]? = some (.cells cs 5 fr) := by
  intro j hj
  rcases h with h | ⟨_, g, rfl, h1, h2, _⟩
  · rcases h.2 with ⟨rfl, _⟩ | ⟨g, cap, cur, rfl, h2, h3, _⟩
    · simp [Value.ownBlock] at hj
    · simp only [Value.ownBlock, Option.some.injEq] at hj
      subst hj
      exact ⟨h2, _, _, h3⟩
  · simp only [Value.ownBlock, Option.some.injEq] at hj
    subst hj
    exact ⟨h1, _, _, h2⟩
theorem RowB.move {o : Bool} {w w' : World} {B : Nat} {v : Value} {bs : List Int} (h : RowB o w B v bs) (hb : ∀ j, v.ownBlock = some j → w'.heap[j]? = w.heap[j]?) : RowB o w' B v bs := by
  rcases h with h | ⟨ho, g, rfl, h1, h2, h3⟩
  · refine Or.inl ⟨h.1, ?_⟩
    rcases h.2 with q | ⟨g, cap, cur, rfl, h2, h3, h4⟩
    · exact Or.inl q
    · exact Or.inr ⟨g, cap, cur, rfl, h2, (hb g rfl).trans h3, h4⟩
  · exact Or.inr ⟨ho, g, rfl, h1, (hb g rfl).trans h2, h3⟩
/-- What stays where bytes are written by the struct at q: all from ahead of B, and all that is no row of bytes. -/
structure FrU (B q : Nat) (w w' : World) : Prop where
  os : w'.os = w.os
  tape : w'.tape = w.tape
  output : w'.output = w.output
  size : w.heap.size ≤ w'.heap.size
  below : ∀ k, k < B → w'.heap[k]? = w.heap[k]?
  keep : ∀ k cs T fr, w.heap[k]? = some (.cells cs T fr) → T ≠ 5 → k ≠ q → w'.heap[k]? = some (.cells cs T fr)
theorem FrU.refl (B q : Nat) (w : World) : FrU B q w w := ⟨rfl, rfl, rfl, Nat.le_refl _, fun _ _ => rfl, fun _ _ _ _ h _ _ => h⟩
theorem FrU.trans {B q : Nat} {a b c : World} (h : FrU B q a b) (k : FrU B q b c) : FrU B q a c :=
  ⟨k.os.trans h.os, k.tape.trans h.tape, k.output.trans h.output, Nat.le_trans h.size k.size, fun i hi => (k.below i hi).trans (h.below i hi), fun i cs T fr h1 h2 h3 => k.keep i cs T fr (h.keep i cs T fr h1 h2 h3) h2 h3⟩
theorem FrU.of_below {B q : Nat} {w w' : World} (h : Below w.heap.size w w') (hB : B ≤ w.heap.size) : FrU B q w w' :=
  ⟨h.os, h.tape, h.output, h.size, fun k hk => h.block k (by omega), fun k cs T fr h1 _ _ => (h.block k (hlt h1)).trans h1⟩
theorem FrU.set {B q : Nat} {w : World} (hq : B ≤ q) (v : Value) : FrU B q w (w.setCell ⟨q, 0, none⟩ v) :=
  ⟨rfl, rfl, rfl, by simp [World.setCell], fun k hk => hother v (by omega), fun k cs T fr h1 _ h3 => (hother v h3).trans h1⟩
theorem FrU.grown {o : Bool} {B q : Nat} {w w' : World} {v : Value} {bs : List Int} (hr : RowB o w B v bs) (hg : w.grownBy w' v.ownBlock) (hB : B ≤ w.heap.size) : FrU B q w w' :=
  ⟨hg.os, hg.tape, hg.output, hg.size, fun k hk => hg.block k (by omega) fun e => by have := (hr.block k e.symm).1; omega, fun k cs T fr h1 h2 _ => (hg.block k (hlt h1) fun e => by
    obtain ⟨_, cs', fr', h4⟩ := hr.block k e.symm
    rw [h1] at h4
    cases h4
    exact h2 rfl).trans h1⟩
theorem FrU.cell {B q : Nat} {w w' : World} (h : FrU B q w w') {k : Nat} {cs : Array Value} {T : TypeId} {fr : Nat × Nat} (hk : w.heap[k]? = some (.cells cs T fr)) (hT : T ≠ 5) (hq : k ≠ q) (i : Nat) : w'.cell? ⟨k, i, none⟩ = cs[i]? := hcell (h.keep k cs T fr hk hT hq) i
theorem FrU.toBelow {B q : Nat} {w w' : World} (h : FrU B q w w') : Below B w w' := ⟨h.os, h.tape, h.output, h.size, h.below⟩

/-- The writer at block q: what was written so far. -/
structure Wt (B q : Nat) (o : Bool) (w : World) (bs : List Int) : Prop where
  blk : ∃ v, w.heap[q]? = some (.cells #[v] 100 (0, 0)) ∧ RowB o w B v bs
  qB : B ≤ q
  sz : B ≤ w.heap.size
theorem u8_bytes : 100 ≠ 5 := by decide
theorem Wt.keep {B q : Nat} {o : Bool} {w w' : World} {bs : List Int} (h : Wt B q o w bs) (hb : Below w.heap.size w w') : Wt B q o w' bs := by
  obtain ⟨v, h1, h2⟩ := h.blk
  refine ⟨⟨v, (hb.block q (hlt h1)).trans h1, h2.move fun j hj => ?_⟩, h.qB, Nat.le_trans h.sz hb.size⟩
  obtain ⟨_, cs, fr, h4⟩ := h2.block j hj
  exact hb.block j (hlt h4)
theorem Wt.alloc {B q : Nat} {o : Bool} {w : World} {bs : List Int} (h : Wt B q o w bs) (ob : Obj) : Wt B q o (w.alloc ob) bs := h.keep ((Below.refl _ _).alloc (Nat.le_refl _) ob)
theorem grown_none {w w' : World} (h : w.grownBy w' none) (row : Option Nat) : w.grownBy w' row := ⟨h.os, h.tape, h.output, h.size, fun k hk _ => h.block k hk (by simp)⟩
theorem owns_base {w : World} {B B' : Nat} {e : TypeId} {k : Nat} {v : Value} {n : Nat} {xs : List Value} (h : w.ownsRow B e k v n xs) (hB : B' ≤ B) : w.ownsRow B' e k v n xs := by
  refine ⟨h.1, ?_⟩
  rcases h.2 with q | ⟨g, cap, cur, h1, h2, h3⟩
  · exact Or.inl q
  · exact Or.inr ⟨g, cap, cur, h1, Nat.le_trans hB h2, h3⟩
theorem owns_at' {w w' : World} {B : Nat} {e : TypeId} {k : Nat} {v : Value} {n : Nat} {xs : List Value} (h : w.ownsRow B e k v n xs) (hb : ∀ (j : Nat) (cs : Array Value), w.heap[j]? = some (.cells cs e (0, 0)) → w'.heap[j]? = w.heap[j]?) : w'.ownsRow B e k v n xs := by
  refine ⟨h.1, ?_⟩
  rcases h.2 with q | ⟨g, cap, cur, h1, h2, h3, h4⟩
  · exact Or.inl q
  · exact Or.inr ⟨g, cap, cur, h1, h2, (hb g cur h3).trans h3, h4⟩
/-- Behind an append to the writer's row, and the store. -/
theorem Wt.push {B q : Nat} {o : Bool} {w w1 : World} {bs news : List Int} {v v' : Value} (hq : w.heap[q]? = some (.cells #[v] 100 (0, 0))) (hr : RowB o w B v bs) (hqB : B ≤ q) (hsz : B ≤ w.heap.size)
    (hown : w1.ownsRow B 5 1 v' (bs.length + news.length) (bs.map bv ++ news.map bv)) (hg : w.grownBy w1 v.ownBlock) :
    w1.heap[q]? = some (.cells #[v] 100 (0, 0)) ∧ Wt B q true (w1.setCell ⟨q, 0, none⟩ v') (bs ++ news) ∧ FrU B q w (w1.setCell ⟨q, 0, none⟩ v') := by
  have hf : FrU B (q + 1) w w1 := FrU.grown hr hg hsz
  have hq1 := hf.keep q _ _ _ hq u8_bytes (by omega)
  refine ⟨hq1, ⟨⟨v', hset hq1 0 v', Or.inl ?_⟩, hqB, by have := hg.size; simp [World.setCell]; omega⟩, (FrU.grown hr hg hsz).trans (FrU.set hqB v')⟩
  rw [List.map_append, List.length_append]
  refine owns_at' hown fun j cs hj => ?_
  exact hother v' fun e => by subst e; rw [hq1] at hj; cases hj
end Go.Proofs.YtkafldkhmkdafaaDoor

namespace Go.Proofs.YtkafldkhmkdafaaDoor
open Go.RowKit

theorem infoU8 : (Tryd.prog.info? 5).map (fun i => (i.zero, i.size, i.bytes)) = some (some (.int .u8 0), 1, 1) := by kernel_rfl
/-- An append of one byte to the writer's row. -/
theorem wpList_append_row {ops : Array Oper} {rest : List Oper} {o : Oper} {a : Act} {Q : Exit → Act → World → Prop} {w : World} (hgd : o.guard = none) (s x : Operand)
    (ho : o.op = .call { callee := .builtin .append, args := #[s, x], argTypes := #[40, 40] })
    {B : Nat} {ob : Bool} {v : Value} {bs : List Int} (hs : a.eval s = v) (hrow : RowB ob w B v bs) {ad : Addr} {b : Int} (hx : a.eval x = .slice (some ad) 1 1) (hnews : ∀ j u, [bv b][j]? = some u → w.cell? (ad.add j) = some u) (hlen : bs.length ≤ 200000) (hB : B ≤ w.heap.size)
    (h : ∀ g cap w', w'.ownsRow B 5 1 (.slice (some ⟨g, 0, none⟩) (bs.length + 1) cap) (bs.length + 1) (bs.map bv ++ [bv b]) → w.grownBy w' v.ownBlock → wpList Tryd.prog ops Q rest (a.put o.dst (.slice (some ⟨g, 0, none⟩) (bs.length + 1) cap)) w') : wpList Tryd.prog ops Q (o :: rest) a w := by
  obtain ⟨i0, hi, hz0, hz1, hz2⟩ := info_parts infoU8
  have h1 : ∀ u ∈ [bv b], u.oneCell' = true := fun u hu => by
    obtain rfl := List.mem_singleton.1 hu
    rfl
  rcases hrow with hrow | ⟨_, g, rfl, hg1, hg2, rfl⟩
  · exact wpList_append_lies w hgd s x 40 ho B 5 i0 (.int .u8 0) 1 1 Tryd.underlying40 hi hz0 hz1 hz2 rfl (by decide) v bs.length (bs.map bv) hs hrow ad 1 1 [bv b] hx rfl hnews h1 (by decide) (by unfold maxLen; omega) (by omega) hB _ rfl fun g cap w' q1 q2 _ _ => h g cap w' q1 q2
  · refine wpList_append_grows w hgd s x 40 ho 5 i0 (.int .u8 0) 1 1 Tryd.underlying40 hi hz0 hz1 hz2 rfl (by decide) (some ⟨g, 0, none⟩) 4 4 [bv 82, bv 87, bv 78, bv 68] hs (fun q => by cases q) rfl (fun p hp => ?_) ad 1 1 [bv b] hx rfl hnews h1 (by decide) (by unfold maxLen; omega) (by omega) fun v' w' q1 q2 => ?_
    · cases hp
      exact World.news_of_block hg2
    · obtain ⟨g', cap', e, _, _⟩ := q1.form (by decide)
      subst e
      exact h g' cap' w' (owns_base q1 hB) (grown_none q2 _)

theorem RowB.alloc {ob : Bool} {w : World} {B : Nat} {v : Value} {bs : List Int} (h : RowB ob w B v bs) (o : Obj) : RowB ob (w.alloc o) B v bs :=
  h.move fun j hj => by
    obtain ⟨_, cs, fr, h4⟩ := h.block j hj
    exact Below.heap_alloc _ _ _ (hlt h4)
theorem push1 {B q : Nat} {ob : Bool} {w2 w3 : World} {cur : List Int} {v : Value} {b : Int} {g cap : Nat} (hq : w2.heap[q]? = some (.cells #[v] 100 (0, 0))) (hr : RowB ob w2 B v cur) (hqB : B ≤ q) (hsz : B ≤ w2.heap.size)
    (hown : w3.ownsRow B 5 1 (.slice (some ⟨g, 0, none⟩) (cur.length + 1) cap) (cur.length + 1) (cur.map bv ++ [bv b])) (hg : (w2.alloc (.cells #[bv b] 5)).grownBy w3 v.ownBlock) :
    w3.heap[q]? = some (.cells #[v] 100 (0, 0)) ∧ Wt B q true (w3.setCell ⟨q, 0, none⟩ (.slice (some ⟨g, 0, none⟩) (cur.length + 1) cap)) (cur ++ [b]) ∧ FrU B q w2 (w3.setCell ⟨q, 0, none⟩ (.slice (some ⟨g, 0, none⟩) (cur.length + 1) cap)) := by
  obtain ⟨h1, h2, h3⟩ := Wt.push (news := [b]) ((Below.heap_alloc _ _ _ (hlt hq)).trans hq) (hr.alloc _) hqB (by simp; omega) hown hg
  exact ⟨h1, h2, (FrU.of_below ((Below.refl _ _).alloc (Nat.le_refl _) _) hsz).trans h3⟩
theorem wrapU (n : Int) : IntKind.u64.wrap n = n % 18446744073709551616 := by simp [IntKind.wrap, IntKind.bits, IntKind.signed]
theorem w64 (n : Int) : wrap64 n = (n + 9223372036854775808) % 18446744073709551616 - 9223372036854775808 := by
  unfold wrap64
  omega
theorem zig_pos {n : Int} (h : I64 n) (h0 : ¬ n < 0) : IntKind.u64.wrap (wrap64 (2 * n)) = (zig n : Int) := by
  obtain ⟨h1, h2⟩ := h
  rw [wrapU, w64, zig, if_pos (by omega)]
  omega
theorem zig_neg {n : Int} (h : I64 n) (h0 : n < 0) : IntKind.u64.wrap (IntKind.u64.wrap (-(IntKind.u64.wrap (wrap64 (2 * n)))) - 1) = (zig n : Int) := by
  obtain ⟨h1, h2⟩ := h
  rw [wrapU, wrapU, wrapU, w64, zig, if_neg (by omega)]
  omega

/-- So many numbers were written, and a part of the next one. -/
def NumW (B q : Nat) (o : Bool) (w : World) (bs : List Int) (w' : World) : Prop := Wt B q o w' bs ∧ FrU B q w w'
def NumsPost (B q : Nat) (w : World) (bs : List Int) (e : Ending) (w' : World) : Prop := e = .returned (.tuple #[]) ∧ Wt B q true w' bs ∧ FrU B q w w'

set_option maxRecDepth 100000 in
set_option maxHeartbeats 8000000 in
theorem num_any {B q : Nat} {o : Bool} {w : World} {bs : List Int} (h : Wt B q o w bs) (ns : List Int) (hin : ∀ n ∈ ns, I64 n) (hlen : (bs ++ ns.flatMap encN).length ≤ 200000) (hnl : ns.length ≤ 10) (hne : 0 < ns.length) {nb : Nat} (hnb : w.heap[nb]? = some (.cells (ns.map iv).toArray 3 (0, 0))) (hnq : nb ≠ q) (cap : Nat) :
    Calls Tryd.prog 23 #[.pointer (some ⟨q, 0, none⟩), .slice (some ⟨nb, 0, none⟩) ns.length cap] w fun e w' => NumsPost B q w (bs ++ ns.flatMap encN) e w' := by
  have H := hide h
  have HIN := hide hin
  have HLEN := hide hlen
  have HNB := hide hnb
  have HNQ := hide hnq
  clear h hin hlen hnb hnq
  go_enter Tryd.func23, Tryd.ntmps23
  go_wp2_with fail
  go_loopg [9] ns.length (fun gg i wr => ∃ (k : Nat), k ≤ ns.length ∧ gg = ns.length - k ∧ i = .int .i64 k ∧ Hid (NumW B q (o || decide (0 < k)) w (bs ++ (ns.take k).flatMap encN) wr))
  case atStart => exact ⟨0, Nat.zero_le _, rfl, rfl, by simpa using unhide H, FrU.refl _ _ _⟩
  case round =>
    obtain ⟨k, hk, rfl, rfl, HY⟩ := hrel
    by_cases hlk : k < ns.length
    · have hk2 : (k : Int) < (ns.length : Int) := by omega
      obtain ⟨n, hn⟩ : ∃ n, ns[k]? = some n := ⟨ns[k], List.getElem?_eq_getElem hlk⟩
      have hi := (unhide HIN) n (List.mem_of_getElem? hn)
      have c0 : wr.cell? ⟨nb, k, none⟩ = some (.int .i64 n) := by
        rw [(unhide HY).2.cell (unhide HNB) (by decide) (unhide HNQ) k]
        simp [hn, iv]
      have HT : Hid (ns.take (k + 1) = ns.take k ++ [n]) := by
        show ns.take (k + 1) = ns.take k ++ [n]
        rw [List.take_add_one, hn]
        rfl
      have HN := hide hn
      have HI := hide hi
      clear hn hi
      have hz := zig_lt (unhide HI).1 (unhide HI).2
      have HLN : Hid ((bs ++ (ns.take k).flatMap encN ++ encN n).length ≤ 200000) := by
        have h1 := unhide HLEN
        have h2 : ns = ns.take (k + 1) ++ ns.drop (k + 1) := (List.take_append_drop _ _).symm
        rw [h2, unhide HT] at h1
        show (bs ++ (ns.take k).flatMap encN ++ encN n).length ≤ 200000
        simp only [List.flatMap_append, List.length_append, List.flatMap_cons, List.flatMap_nil, List.append_nil] at h1 ⊢
        omega
      by_cases h0 : n < 0
      · have e1 := zig_neg (unhide HI) h0
        go_wp2_with fail
        go_loopg [6] (zig n) (fun gg u w2 => ∃ (U : Nat), gg = U ∧ u = .int .u64 U ∧ U < 18446744073709551616 ∧ Hid (∃ (pre : List Int) (o2 : Bool), NumW B q o2 w ((bs ++ (ns.take k).flatMap encN) ++ pre) w2 ∧ encN n = pre ++ encU U))
        case atStart => exact ⟨zig n, rfl, rfl, hz, [], o || decide (0 < k), by simpa using unhide HY, rfl⟩
        case round =>
          clear c0 e1
          rename World => w2
          obtain ⟨U, hgU, rfl, hU, HP⟩ := hrel
          obtain ⟨pre, o2, hp1, hp2⟩ := unhide HP
          obtain ⟨v, hq, hrow⟩ := hp1.1.blk
          have hqB := hp1.1.qB
          have hsz := hp1.1.sz
          have cq : w2.cell? ⟨q, 0, none⟩ = some v := hcell hq 0
          have HF2 := hide hp1.2
          have HP2 := hide hp2
          have hpl : ((bs ++ (ns.take k).flatMap encN) ++ pre).length ≤ 200000 := by
            have h1 := unhide HLN
            rw [hp2] at h1
            simp only [List.length_append] at h1 ⊢
            omega
          obtain ⟨cur, hcur⟩ : ∃ cur, (bs ++ (ns.take k).flatMap encN) ++ pre = cur := ⟨_, rfl⟩
          rw [hcur] at hrow hpl
          have HCUR := hide hcur
          have HQ := hide hq
          have HROW := hide hrow
          have HQB := hide hqB
          have HSZ := hide hsz
          clear hp1 hp2 HP hq hrow hcur hqB
          by_cases hbig : 127 < U
          · have hbig' : (127 : Int) < (U : Int) := by omega
            go_wp2_with (at_builtin; refine wpList_append_row rfl _ _ rfl rfl ((unhide HROW).alloc _) (ad := ⟨w2.heap.size, 0, none⟩) (b := (U : Int) % 128 + 128) rfl (news_at rfl _ _) hpl (by simp; omega) ?_)
            intro g cap1 w3 hown hgrow
            obtain ⟨p1, p2, p3⟩ := push1 (unhide HQ) (unhide HROW) (unhide HQB) (unhide HSZ) hown hgrow
            have z0 : w3.cell? ⟨q, 0, none⟩ = some v := hcell p1 0
            have y0 := hfroz p1 0
            have HP3 := hide p2
            have HP4 := hide ((unhide HF2).trans p3)
            clear hown hgrow p1 p2 p3
            go_wp2_with fail
            go_roundg (U / 128)
            case measure => omega
            case rel =>
              refine ⟨U / 128, rfl, by simp, by omega, pre ++ [(U : Int) % 128 + 128], true, ⟨?_, unhide HP4⟩, ?_⟩
              · rw [show bs ++ (ns.take k).flatMap encN ++ (pre ++ [(U : Int) % 128 + 128]) = cur ++ [(U : Int) % 128 + 128] by rw [← unhide HCUR]; simp]
                exact unhide HP3
              · rw [unhide HP2, encU_great hbig]
                simp
          · have hbig' : ¬ (127 : Int) < (U : Int) := by omega
            go_wp2_with (at_builtin; refine wpList_append_row rfl _ _ rfl rfl ((unhide HROW).alloc _) (ad := ⟨w2.heap.size, 0, none⟩) (b := (U : Int)) rfl (news_at rfl _ _) hpl (by simp; omega) ?_)
            intro g cap1 w3 hown hgrow
            obtain ⟨p1, p2, p3⟩ := push1 (unhide HQ) (unhide HROW) (unhide HQB) (unhide HSZ) hown hgrow
            have z0 : w3.cell? ⟨q, 0, none⟩ = some v := hcell p1 0
            have y0 := hfroz p1 0
            have HP3 := hide p2
            have HP4 := hide ((unhide HF2).trans p3)
            clear hown hgrow p1 p2 p3
            go_wp2_with fail
            go_roundg (ns.length - (k + 1))
            case measure => omega
            case rel =>
              refine ⟨k + 1, by omega, rfl, by go_num, ?_, unhide HP4⟩
              rw [unhide HT, List.flatMap_append, show (o || decide (0 < k + 1)) = true by simp]
              simp only [List.flatMap_cons, List.flatMap_nil, List.append_nil]
              rw [unhide HP2, encU_small (by omega), show bs ++ ((ns.take k).flatMap encN ++ (pre ++ [(U : Int)])) = cur ++ [(U : Int)] by rw [← unhide HCUR]; simp]
              exact unhide HP3
      · have e1 := zig_pos (unhide HI) h0
        go_wp2_with fail
        go_loopg [6] (zig n) (fun gg u w2 => ∃ (U : Nat), gg = U ∧ u = .int .u64 U ∧ U < 18446744073709551616 ∧ Hid (∃ (pre : List Int) (o2 : Bool), NumW B q o2 w ((bs ++ (ns.take k).flatMap encN) ++ pre) w2 ∧ encN n = pre ++ encU U))
        case atStart => exact ⟨zig n, rfl, rfl, hz, [], o || decide (0 < k), by simpa using unhide HY, rfl⟩
        case round =>
          clear c0 e1
          rename World => w2
          obtain ⟨U, hgU, rfl, hU, HP⟩ := hrel
          obtain ⟨pre, o2, hp1, hp2⟩ := unhide HP
          obtain ⟨v, hq, hrow⟩ := hp1.1.blk
          have hqB := hp1.1.qB
          have hsz := hp1.1.sz
          have cq : w2.cell? ⟨q, 0, none⟩ = some v := hcell hq 0
          have HF2 := hide hp1.2
          have HP2 := hide hp2
          have hpl : ((bs ++ (ns.take k).flatMap encN) ++ pre).length ≤ 200000 := by
            have h1 := unhide HLN
            rw [hp2] at h1
            simp only [List.length_append] at h1 ⊢
            omega
          obtain ⟨cur, hcur⟩ : ∃ cur, (bs ++ (ns.take k).flatMap encN) ++ pre = cur := ⟨_, rfl⟩
          rw [hcur] at hrow hpl
          have HCUR := hide hcur
          have HQ := hide hq
          have HROW := hide hrow
          have HQB := hide hqB
          have HSZ := hide hsz
          clear hp1 hp2 HP hq hrow hcur hqB
          by_cases hbig : 127 < U
          · have hbig' : (127 : Int) < (U : Int) := by omega
            go_wp2_with (at_builtin; refine wpList_append_row rfl _ _ rfl rfl ((unhide HROW).alloc _) (ad := ⟨w2.heap.size, 0, none⟩) (b := (U : Int) % 128 + 128) rfl (news_at rfl _ _) hpl (by simp; omega) ?_)
            intro g cap1 w3 hown hgrow
            obtain ⟨p1, p2, p3⟩ := push1 (unhide HQ) (unhide HROW) (unhide HQB) (unhide HSZ) hown hgrow
            have z0 : w3.cell? ⟨q, 0, none⟩ = some v := hcell p1 0
            have y0 := hfroz p1 0
            have HP3 := hide p2
            have HP4 := hide ((unhide HF2).trans p3)
            clear hown hgrow p1 p2 p3
            go_wp2_with fail
            go_roundg (U / 128)
            case measure => omega
            case rel =>
              refine ⟨U / 128, rfl, by simp, by omega, pre ++ [(U : Int) % 128 + 128], true, ⟨?_, unhide HP4⟩, ?_⟩
              · rw [show bs ++ (ns.take k).flatMap encN ++ (pre ++ [(U : Int) % 128 + 128]) = cur ++ [(U : Int) % 128 + 128] by rw [← unhide HCUR]; simp]
                exact unhide HP3
              · rw [unhide HP2, encU_great hbig]
                simp
          · have hbig' : ¬ (127 : Int) < (U : Int) := by omega
            go_wp2_with (at_builtin; refine wpList_append_row rfl _ _ rfl rfl ((unhide HROW).alloc _) (ad := ⟨w2.heap.size, 0, none⟩) (b := (U : Int)) rfl (news_at rfl _ _) hpl (by simp; omega) ?_)
            intro g cap1 w3 hown hgrow
            obtain ⟨p1, p2, p3⟩ := push1 (unhide HQ) (unhide HROW) (unhide HQB) (unhide HSZ) hown hgrow
            have z0 : w3.cell? ⟨q, 0, none⟩ = some v := hcell p1 0
            have y0 := hfroz p1 0
            have HP3 := hide p2
            have HP4 := hide ((unhide HF2).trans p3)
            clear hown hgrow p1 p2 p3
            go_wp2_with fail
            go_roundg (ns.length - (k + 1))
            case measure => omega
            case rel =>
              refine ⟨k + 1, by omega, rfl, by go_num, ?_, unhide HP4⟩
              rw [unhide HT, List.flatMap_append, show (o || decide (0 < k + 1)) = true by simp]
              simp only [List.flatMap_cons, List.flatMap_nil, List.append_nil]
              rw [unhide HP2, encU_small (by omega), show bs ++ ((ns.take k).flatMap encN ++ (pre ++ [(U : Int)])) = cur ++ [(U : Int)] by rw [← unhide HCUR]; simp]
              exact unhide HP3
    · have hk2 : ¬ (k : Int) < (ns.length : Int) := by omega
      go_wp2_with fail
      go_end0
      refine ⟨rfl, ?_, (unhide HY).2⟩
      have := (unhide HY).1
      rwa [List.take_of_length_le (by omega), show (o || decide (0 < k)) = true by simp; omega] at this
end Go.Proofs.YtkafldkhmkdafaaDoor

namespace Go.Proofs.YtkafldkhmkdafaaDoor
open Go.RowKit

theorem strCells_bv (s : ByteArray) : Go.Lib.strCells s = (bytesL s).map bv := by
  unfold Go.Lib.strCells bytesL
  rw [List.map_map]
  rfl
theorem encT_length (s : ByteArray) : (encT s).length = (encN s.size).length + s.size := by rw [encT, List.length_append, bytesL_length]

set_option maxRecDepth 100000 in
set_option maxHeartbeats 4000000 in
theorem wtext_any {B q : Nat} {o : Bool} {w : World} {bs : List Int} (h : Wt B q o w bs) (s : ByteArray) (hlen : (bs ++ encT s).length ≤ 200000) :
    Calls Tryd.prog 24 #[.pointer (some ⟨q, 0, none⟩), .string s] w fun e w' => NumsPost B q w (bs ++ encT s) e w' := by
  have H := hide h
  have hle := hlen
  rw [List.length_append, encT_length] at hle
  have HLE := hide hle
  obtain ⟨i0, hi, hz0, hz1, hz2⟩ := info_parts infoU8
  have HQ0 : Hid (q < w.heap.size) := by obtain ⟨v, h1, _⟩ := h.blk; exact hlt h1
  clear h hlen
  have hs63 : (s.size : Int) ≤ 9223372036854775807 := by omega
  clear hle
  go_enter Tryd.func24, Tryd.ntmps24
  go_wp2_with fail
  refine (num_any (nb := w.heap.size) ((unhide H).alloc (.cells #[.int .i64 s.size] 3)) [(s.size : Int)] (fun n hn => by obtain rfl := List.mem_singleton.1 hn; exact ⟨by omega, hs63⟩) (by have := unhide HLE; simp; omega) (by simp) (by simp) (hnew _ _) (by have := unhide HQ0; omega) 1).mono ?_
  rintro e w1 ⟨rfl, hw1, hf1⟩
  have HF1 := hide ((FrU.of_below ((Below.refl _ _).alloc (Nat.le_refl _) _) (unhide H).sz).trans hf1)
  obtain ⟨v, hq, hrow⟩ := hw1.blk
  have hown : w1.ownsRow B 5 1 v (bs ++ encN s.size).length ((bs ++ encN s.size).map bv) := by
    rcases hrow with q | ⟨q, _⟩
    · simpa using q
    · cases q
  have HROW : Hid (RowB true w1 B v (bs ++ encN s.size)) := Or.inl hown
  have c0 : w1.cell? ⟨q, 0, none⟩ = some v := hcell hq 0
  have HQ := hide hq
  have HO := hide hown
  have HQB := hide hw1.qB
  have HSZ := hide hw1.sz
  clear hw1 hf1 hq hrow hown
  go_wp2_with (at_builtin; refine Go.Lib.wpList_append_own_string _ rfl _ _ _ _ rfl B 5 i0 Tryd.underlying40 Tryd.underlying9 hi hz0 hz1 hz2 _ (bs ++ encN s.size).length ((bs ++ encN s.size).map bv) rfl (unhide HO) s rfl ?c1 ?c2 (unhide HSZ) ?_)
  case c1 => have := unhide HLE; unfold maxLen; simp; omega
  case c2 => have := unhide HLE; simp; omega
  intro v' w3 hown3 hgrow _
  obtain ⟨p1, p2, p3⟩ := Wt.push (v' := v') (news := bytesL s) (unhide HQ) (unhide HROW) (unhide HQB) (unhide HSZ) (by rw [← strCells_bv, bytesL_length]; simpa using hown3) hgrow
  have z0 : w3.cell? ⟨q, 0, none⟩ = some v := hcell p1 0
  have y0 := hfroz p1 0
  have HP2 := hide p2
  have HP3 := hide ((unhide HF1).trans p3)
  obtain ⟨g', cap', hv'⟩ := owns_form hown3
  subst hv'
  clear hown3 hgrow p1 p2 p3
  go_wp2_with fail
  go_end0
  refine ⟨rfl, ?_, unhide HP3⟩
  have := unhide HP2
  rw [List.append_assoc] at this
  exact this
end Go.Proofs.YtkafldkhmkdafaaDoor
