/-
  Nodes around others, as nodes that are being made.
  Signs between values.
  What stands behind a dot.
  Values with what stands behind them.
  Values with signs ahead.
-/
import Derived.Test.YtcpjefdbgjlnnaaGreatDoorM11
namespace Go.Proofs.YtcpjefdbgjlnnaaGreatDoor
open Go.RowKit
attribute [local go_sem ↓] Go.wp_at_zero Go.wp_at_succ

theorem Add.trans {a b c : World} (h : Add a b) (k : Add b c) : Add a c :=
  ⟨k.os.trans h.os, k.tape.trans h.tape, k.output.trans h.output, Nat.le_trans h.size k.size, fun i hi => (k.block i (Nat.lt_of_lt_of_le hi h.size)).trans (h.block i hi)⟩

/-- What 'around' makes, as a node that is being made. -/
theorem Arnd.und {lo : Nat} {w w' : World} {k ln b : Nat} {news : List Value} {e : Ending} (h : Arnd w k ln b news e w') {t : Tree} {ts : List Tree} (hlo : lo ≤ w.heap.size)
    (hf : NodeAt (fun j => lo ≤ j) w (.pointer (some ⟨b, 0, none⟩)) t) (hlen : news.length = ts.length) (hk : ∀ (i : Nat) (h : i < ts.length), NodeAt (fun j => lo ≤ j) w (news.getD i undef) ts[i]) :
    ∃ n ks, e = .returned (.pointer (some ⟨n, 0, none⟩)) ∧ w.heap.size ≤ n ∧ Und (fun j => lo ≤ j) w' n k noText noText 0 ln (t :: ts) ks (.pointer (some ⟨b, 0, none⟩) :: news) ∧ Add w w' := by
  obtain ⟨n, ks, ty, h1, h2, h3, h4, h5⟩ := h
  have hks : ∀ j, ks.ownBlock = some j → w.heap.size ≤ j := by
    intro j hj
    rcases h4 with ⟨rfl, _⟩ | ⟨g', cap', cur, rfl, hg', _⟩
    · simp [Value.ownBlock] at hj
    · simp only [Value.ownBlock, Option.some.injEq] at hj
      subst hj
      exact hg'.1
  have keepK : ∀ (v : Value) (u : Tree), NodeAt (fun j => lo ≤ j) w v u → NodeAt (fun j => lo ≤ j ∧ j ≠ n ∧ some j ≠ ks.ownBlock) w' v u := fun v u hu =>
    (hu.lt u v).keep (fun j hj => ⟨hj.1, by omega, fun e => by have := hks j e.symm; omega⟩) (fun j hj hl => h5.block j hl) u v
  refine ⟨n, ks, h1, h2, ⟨(by show lo ≤ n; omega), ⟨ty, h3⟩, h4.keep (fun j hj => ⟨by omega, hj.2⟩) (fun _ _ _ => rfl), by simp [hlen], ?_⟩, h5⟩
  intro i hi
  cases i with
  | zero => exact keepK _ _ hf
  | succ i =>
    have hi' : i < ts.length := by simpa using hi
    exact keepK _ _ (hk i hi')

/-- The line of a node in memory. -/
theorem NodeAt.line {A : Nat → Prop} {w : World} {b : Nat} {t : Tree} (h : NodeAt A w (.pointer (some ⟨b, 0, none⟩)) t) : w.cell? ⟨b, 4, none⟩ = some (.int .i64 t.line) ∧ b < w.heap.size ∧ A b := by
  rw [NodeAt_iff] at h
  obtain ⟨b', ty, ks, vs, h1, h2, h3, _⟩ := h
  cases h1
  exact ⟨hcell h3 4, (Array.getElem?_eq_some_iff.1 h3).1, h2⟩
/-- The kind of a node in memory. -/
theorem NodeAt.knd {A : Nat → Prop} {w : World} {b : Nat} {t : Tree} (h : NodeAt A w (.pointer (some ⟨b, 0, none⟩)) t) : w.cell? ⟨b, 0, none⟩ = some (.int .i64 t.kind) := by
  rw [NodeAt_iff] at h
  obtain ⟨b', ty, ks, vs, h1, h2, h3, _⟩ := h
  cases h1
  exact hcell h3 0

theorem Lst.lies {lo : Nat} {w : World} {v : Value} {vs : List Value} {ts : List Tree} (hl : Lst lo w v vs ts) (hpos : 0 < ts.length) :
    ∃ g cap, v = .slice (some ⟨g, 0, none⟩) vs.length cap ∧ (∀ j u, vs[j]? = some u → w.cell? ((⟨g, 0, none⟩ : Addr).add j) = some u) ∧ (∀ u ∈ vs, u.oneCell' = true) ∧ g < w.heap.size := by
  have hlen := hl.len
  rcases hl.row with ⟨rfl, rfl⟩ | ⟨g, cap, cur, rfl, hg, h3, h4, h5, h6, h7⟩
  · simp at hlen; omega
  · refine ⟨g, cap, rfl, ?_, ?_, (Array.getElem?_eq_some_iff.1 h3).1⟩
    · intro j u hu
      refine World.news_of_block h3 j u ?_
      have hj : j < vs.length := (List.getElem?_eq_some_iff.1 hu).1
      rw [← hu, ← h7, List.getElem?_take]
      simp [hj]
    · intro u hu
      obtain ⟨i, hi, rfl⟩ := List.getElem_of_mem hu
      have hk := hl.kids i (by omega)
      rw [NodeAt_iff] at hk
      obtain ⟨b', _, _, _, h1, _⟩ := hk
      have : vs[i] = .pointer (some ⟨b', 0, none⟩) := by simpa [List.getD, hi] using h1
      rw [this]
      rfl

/-- A node around one other. -/
theorem around_one {lo : Nat} {w : World} {k b : Nat} {t : Tree} (hlo : lo ≤ w.heap.size) (hf : NodeAt (fun j => lo ≤ j) w (.pointer (some ⟨b, 0, none⟩)) t) :
    Calls Tryz.prog 120 #[.int .i64 k, .pointer (some ⟨b, 0, none⟩), .slice none 0 0] w fun e w' => ∃ n ks, e = .returned (.pointer (some ⟨n, 0, none⟩)) ∧ w.heap.size ≤ n ∧ Und (fun j => lo ≤ j) w' n k noText noText 0 t.line [t] ks [.pointer (some ⟨b, 0, none⟩)] ∧ Add w w' :=
  (around_none hf.line.1 hf.line.2.1).mono fun _ _ h => h.und hlo hf rfl fun i h => absurd h (Nat.not_lt_zero i)

/-- A node around others: a first one, and those of a list. -/
theorem around_list {lo : Nat} {w : World} {k b : Nat} {t : Tree} {ts : List Tree} {v : Value} {vs : List Value} (hlo : lo ≤ w.heap.size) (hf : NodeAt (fun j => lo ≤ j) w (.pointer (some ⟨b, 0, none⟩)) t) (hl : Lst lo w v vs ts) (h0 : ts = [] → v = .slice none 0 0) (h9 : ts.length ≤ 8) :
    Calls Tryz.prog 120 #[.int .i64 k, .pointer (some ⟨b, 0, none⟩), v] w fun e w' => ∃ n ks, e = .returned (.pointer (some ⟨n, 0, none⟩)) ∧ w.heap.size ≤ n ∧ Und (fun j => lo ≤ j) w' n k noText noText 0 t.line (t :: ts) ks (.pointer (some ⟨b, 0, none⟩) :: vs) ∧ Add w w' := by
  have hlen := hl.len
  have hkid : ∀ (i : Nat) (h : i < ts.length), NodeAt (fun j => lo ≤ j) w (vs.getD i undef) ts[i] := fun i h => (hl.kids i h).mono fun _ h => h.1
  by_cases hz : ts = []
  · obtain rfl := h0 hz
    subst hz
    have hv0 : vs = [] := List.eq_nil_of_length_eq_zero hlen
    subst hv0
    exact (around_none hf.line.1 hf.line.2.1).mono fun _ _ h => h.und hlo hf hlen hkid
  · have hpos : 0 < ts.length := List.length_pos_iff.2 hz
    obtain ⟨g, cap, e1, hn, h1, hlt⟩ := hl.lies hpos
    rw [e1]
    exact (around_some hf.line.1 hf.line.2.1 (news := vs) rfl hn h1 (by omega) (by omega) hlt).mono fun _ _ h => h.und hlo hf hlen hkid

/-- A node around two others, the second of them in a block of its own. -/
theorem around_two {lo : Nat} {w : World} {k b a : Nat} {ty : TypeId} {x : Value} {t u : Tree} (hlo : lo ≤ w.heap.size) (hf : NodeAt (fun j => lo ≤ j) w (.pointer (some ⟨b, 0, none⟩)) t) (hu : NodeAt (fun j => lo ≤ j) w x u) (ha : w.heap[a]? = some (.cells #[x] ty (0, 0))) :
    Calls Tryz.prog 120 #[.int .i64 k, .pointer (some ⟨b, 0, none⟩), .slice (some ⟨a, 0, none⟩) 1 1] w fun e w' => ∃ n ks, e = .returned (.pointer (some ⟨n, 0, none⟩)) ∧ w.heap.size ≤ n ∧ Und (fun j => lo ≤ j) w' n k noText noText 0 t.line [t, u] ks [.pointer (some ⟨b, 0, none⟩), x] ∧ Add w w' := by
  refine (around_some hf.line.1 hf.line.2.1 (news := [x]) rfl (World.news_of_block ha) (fun v hv => ?_) (by simp) (by simp) (Array.getElem?_eq_some_iff.1 ha).1).mono fun _ _ h => h.und hlo hf rfl fun i hi => ?_
  · simp only [List.mem_singleton] at hv
    subst hv
    rw [NodeAt_iff] at hu
    obtain ⟨b', _, _, _, h1, _⟩ := hu
    subst h1
    rfl
  · have hi0 : i = 0 := by simpa using hi
    subst hi0
    exact hu

/-- KIDS MORE, those of a list: the row has grown by the law of append, and the node leads to it. -/
theorem Und.moreL {lo : Nat} {w w1 w' : World} {b k k' : Nat} {tx un : ByteArray} {n : Int} {ln : Nat} {ts : List Tree} {ks : Value} {vs : List Value} (h : Und (fun j => lo ≤ j) w b k tx un n ln ts ks vs)
    {xs : List Value} {us : List Tree} (hxl : xs.length = us.length) (hx : ∀ (i : Nat) (h : i < us.length), NodeAt (fun j => lo ≤ j ∧ j ≠ b ∧ some j ≠ ks.ownBlock) w (xs.getD i undef) us[i]) {g cap : Nat}
    (hown : w1.ownsRow 0 22 1 (.slice (some ⟨g, 0, none⟩) (vs.length + xs.length) cap) (vs.length + xs.length) (vs ++ xs))
    (hg : w.grownBy w1 ks.ownBlock) (hat : ks.ownBlock = some g ∨ g = w.heap.size) (hlo : lo ≤ w.heap.size)
    (hb' : ∃ t, w'.heap[b]? = some (.cells (ncells k' tx un n ln (.slice (some ⟨g, 0, none⟩) (vs.length + xs.length) cap)) t (0, 0))) (hoth : ∀ j, j ≠ b → w'.heap[j]? = w1.heap[j]?) :
    Und (fun j => lo ≤ j) w' b k' tx un n ln (ts ++ us) (.slice (some ⟨g, 0, none⟩) (vs.length + xs.length) cap) (vs ++ xs) := by
  obtain ⟨t0, hb⟩ := h.cells
  have hbl := (Array.getElem?_eq_some_iff.1 hb).1
  have hbk : some b ≠ ks.ownBlock := by
    rcases h.row with ⟨rfl, _⟩ | ⟨g', cap', cur, rfl, hg', _⟩
    · simp [Value.ownBlock]
    · intro e
      simp only [Value.ownBlock, Option.some.injEq] at e
      exact hg'.2 e.symm
  have hgb : g ≠ b := by
    rcases hat with e | e
    · intro e'; rw [e'] at e; exact hbk e.symm
    · omega
  have hglo : lo ≤ g := by
    rcases hat with e | e
    · rcases h.row with ⟨rfl, _⟩ | ⟨g', cap', cur, rfl, hg', _⟩
      · simp [Value.ownBlock] at e
      · simp only [Value.ownBlock, Option.some.injEq] at e
        rw [← e]; exact hg'.1
    · omega
  have keepK : ∀ (v : Value) (u : Tree), NodeAt (fun j => lo ≤ j ∧ j ≠ b ∧ some j ≠ ks.ownBlock) w v u → NodeAt (fun j => lo ≤ j ∧ j ≠ b ∧ some j ≠ some g) w' v u := fun v u hu =>
    (hu.lt u v).keep (fun j hj => ⟨hj.1.1, hj.1.2.1, fun e => by
      have e' : j = g := by simpa using e
      rcases hat with q | q
      · exact hj.1.2.2 (by rw [q, e'])
      · have := hj.2; omega⟩) (fun j hj hl => (hoth j hj.1.2.1).trans (hg.block j hl hj.1.2.2)) u v
  have hlen := h.len
  refine ⟨h.at', hb', ?_, by simp [h.len, hxl], ?_⟩
  · have hrow : Row (fun j => lo ≤ j ∧ j ≠ b) w1 (.slice (some ⟨g, 0, none⟩) (vs ++ xs).length cap) (vs ++ xs) := Row.of_owns (by simpa using hown) ⟨hglo, hgb⟩
    have := hrow.keep (A' := fun j => lo ≤ j ∧ j ≠ b) (w' := w') (fun _ h => h) (fun j hj _ => hoth j hj.2)
    simpa using this
  · intro i hi
    by_cases hi' : i < ts.length
    · have := keepK _ _ (h.kids i hi')
      have e1 : (vs ++ xs).getD i undef = vs.getD i undef := by simp [List.getD, List.getElem?_append_left (show i < vs.length by omega)]
      rw [e1, List.getElem_append_left hi']
      exact this
    · have hi2 : i - ts.length < us.length := by simp at hi; omega
      have := keepK _ _ (hx _ hi2)
      have e1 : (vs ++ xs).getD i undef = xs.getD (i - ts.length) undef := by simp [List.getD, List.getElem?_append_right (show vs.length ≤ i by omega), hlen]
      rw [e1, List.getElem_append_right (by omega)]
      exact this

/-- Behind an append of some, and behind the stores of a kind and of the list: the node has these kids more. -/
theorem kids_more {lo : Nat} {w0 w wa w6 : World} {r b k : Nat} (k' : Nat) {S : LS} {tx un : ByteArray} {n : Int} {ln : Nat} {ts : List Tree} {ks : Value} {vs : List Value} (hlo0 : lo = w0.heap.size) (hu : Und (fun j => lo ≤ j) w b k tx un n ln ts ks vs) (hua : Und (fun j => lo ≤ j) wa b k tx un n ln ts ks vs)
    (hr : r + 18 < lo) (cx : Cx wa r S) (hx0 : Ext r w0 wa) {xs : List Value} {us : List Tree} (hxl : xs.length = us.length) (hxs : ∀ (i : Nat) (h : i < us.length), NodeAt (fun j => w.heap.size ≤ j) wa (xs.getD i undef) us[i]) {g cap : Nat}
    (hown : w6.ownsRow 0 22 1 (.slice (some ⟨g, 0, none⟩) (vs.length + xs.length) cap) (vs.length + xs.length) (vs ++ xs))
    (hg : wa.grownBy w6 ks.ownBlock) (hat : ks.ownBlock = some g ∨ g = wa.heap.size) :
    w6.cell? ⟨b, 5, none⟩ = some ks ∧ w6.frozen? ⟨b, 5, none⟩ = false ∧ w6.cell? ⟨b, 0, none⟩ = some (.int .i64 k) ∧ w6.frozen? ⟨b, 0, none⟩ = false ∧
    Hid (Und (fun j => lo ≤ j) ((w6.setCell ⟨b, 0, none⟩ (.int .i64 k')).setCell ⟨b, 5, none⟩ (.slice (some ⟨g, 0, none⟩) (vs.length + xs.length) cap)) b k' tx un n ln (ts ++ us) (.slice (some ⟨g, 0, none⟩) (vs.length + xs.length) cap) (vs ++ xs)) ∧
    Hid (Ext r w0 ((w6.setCell ⟨b, 0, none⟩ (.int .i64 k')).setCell ⟨b, 5, none⟩ (.slice (some ⟨g, 0, none⟩) (vs.length + xs.length) cap))) ∧ Hid (Cx ((w6.setCell ⟨b, 0, none⟩ (.int .i64 k')).setCell ⟨b, 5, none⟩ (.slice (some ⟨g, 0, none⟩) (vs.length + xs.length) cap)) r S) := by
  obtain ⟨t0, hb⟩ := hu.cells
  obtain ⟨t2, hb2⟩ := hua.cells
  have hbw := (Array.getElem?_eq_some_iff.1 hb).1
  have hb2w := (Array.getElem?_eq_some_iff.1 hb2).1
  have hblo : lo ≤ b := hu.at'
  have hkw : ∀ j, ks.ownBlock = some j → j < w.heap.size ∧ lo ≤ j ∧ j ≠ b := by
    intro j hj
    rcases hu.row with ⟨rfl, _⟩ | ⟨g', cap', cur, rfl, hg', h3, _⟩
    · simp [Value.ownBlock] at hj
    · simp only [Value.ownBlock, Option.some.injEq] at hj
      subst hj
      exact ⟨(Array.getElem?_eq_some_iff.1 h3).1, hg'.1, hg'.2⟩
  have hbk : some b ≠ ks.ownBlock := fun e => (hkw b e.symm).2.2 rfl
  have hsz : lo ≤ wa.heap.size := by rw [hlo0]; exact hx0.size
  have hrk : some r ≠ ks.ownBlock := fun e => by have := (hkw r e.symm).2.1; omega
  have hb3 : w6.heap[b]? = some (.cells (ncells k tx un n ln ks) t2 (0, 0)) := (hg.block b hb2w hbk).trans hb2
  have hrx : r < wa.heap.size := cx.rd.lt
  have hx3 : Ext r w0 w6 := ext_grown hx0 hg fun j hj => by have := (hkw j hj).2.1; omega
  have hx3' : Ext r w0 ((w6.setCell ⟨b, 0, none⟩ (.int .i64 k')).setCell ⟨b, 5, none⟩ (.slice (some ⟨g, 0, none⟩) (vs.length + xs.length) cap)) := (hx3.setNew ⟨b, 0, none⟩ (by show w0.heap.size ≤ b; omega) _).setNew ⟨b, 5, none⟩ (by show w0.heap.size ≤ b; omega) _
  have hcx3 : Cx w6 r S := by
    have far := cx.tabs.far
    have hjc := cx.jc.keep (w' := w6) fun j _ h2 h3 => hg.block j h3 fun e => by have := (hkw j e.symm).2.1; omega
    have hjn := cx.jn
    have ht := cx.tabs.keep (w' := w6) fun j h1 h2 => hg.block j h2 fun e => by have := (hkw j e.symm).2.1; omega
    obtain ⟨⟨t, hr1⟩, ok, _, _, _⟩ := cx
    exact ⟨⟨t, (hg.block r hrx hrk).trans hr1⟩, ok, ht, hjc, hjn⟩
  refine ⟨hcell hb3 5, hfroz hb3 5, hcell hb3 0, hfroz hb3 0, ?_, hx3', (hcx3.setCell (by omega) _ _).setCell (by omega) _ _⟩
  refine hua.moreL hxl (fun i h => ?_) hown hg hat hsz ⟨t2, by rw [hset (hset hb3 _) _]; rfl⟩ fun j hj => (hother _ hj).trans (hother _ hj)
  refine (hxs i h).mono fun j hj => ⟨by omega, by omega, fun e => ?_⟩
  have := (hkw j e.symm).1
  omega
end Go.Proofs.YtcpjefdbgjlnnaaGreatDoor

namespace Go.Proofs.YtcpjefdbgjlnnaaGreatDoor
open Go.RowKit
attribute [local go_sem ↓] Go.wp_at_zero Go.wp_at_succ

/-- A sign of the table. -/
def sgn (k : Nat) : ByteArray × Nat × Nat := signRows[k]?.getD (noText, 0, 0)
/-- Is it the one that is come to, of one strength? -/
def hit (lev : Nat) (S : LS) (k : Nat) : Bool := (sgn k).2.2 == lev && S.is (sgn k).1
theorem sgn_get {k : Nat} (h : k < signRows.length) : signRows[k] = sgn k := by
  unfold sgn
  rw [List.getElem?_eq_getElem h]
  rfl
theorem joiner_hit {lev : Nat} {S : LS} {k : Nat} (hk : k < 9) (h : hit lev S k = true) (hn : ∀ j, j < k → hit lev S j = false) : joinerP lev S = (sgn k).2.1 := by
  have hf : signRows.find? (fun s => s.2.2 == lev && S.is s.1) = some (sgn k) := by
    rw [List.find?_eq_some_iff_getElem]
    refine ⟨h, k, hk, sgn_get hk, fun j hj => ?_⟩
    rw [sgn_get (Nat.lt_trans hj hk)]
    have := hn j hj
    unfold hit at this
    rw [this]
    rfl
  unfold joinerP
  rw [hf]
theorem joiner_none {lev : Nat} {S : LS} (hn : ∀ j, j < 9 → hit lev S j = false) : joinerP lev S = 0 := by
  have hf : signRows.find? (fun s => s.2.2 == lev && S.is s.1) = none := by
    rw [List.find?_eq_none]
    intro x hx
    obtain ⟨i, hi, rfl⟩ := List.getElem_of_mem hx
    rw [sgn_get hi]
    have := hn i hi
    unfold hit at this
    rw [this]
    decide
  unfold joinerP
  rw [hf]

theorem Add.drewN {w w' : World} (h : Add w w') (n : Nat) : Add w (w'.drewN n) := ⟨h.os, h.tape, h.output, h.size, h.block⟩

theorem is_q {w : World} {r : Nat} {S : LS} (h : Rd w r S) (o : Obj) (n : Nat) (m : ByteArray) {b : Bool} (hb : S.is m = b) :
    Calls Tryz.prog 113 #[.pointer (some ⟨r, 0, none⟩), .string m] ((w.alloc o).drewN n) fun e w' => e = .returned (.bool b) ∧ w' = (w.alloc o).drewN n := is_calls (show Rd ((w.alloc o).drewN n) r S from (h.alloc o).drewN n) m hb

set_option maxRecDepth 100000 in
set_option maxHeartbeats 4000000 in
theorem joiner_any {w : World} {r : Nat} {S : LS} (cx : Cx w r S) (lev : Nat) :
    Calls Tryz.prog 118 #[.pointer (some ⟨r, 0, none⟩), .int .i64 lev] w fun e w' => e = .returned (.int .i64 (joinerP lev S)) ∧ Cx w' r S ∧ Add w w' := by
  obtain ⟨tt, fr, hg⟩ := cx.tabs.signs
  have hsz : (Tryz.prog.info? 227).map (·.size) = some signCells.size := by kernel_rfl
  have hidx : ∀ (k : Nat), k < 9 → ∀ w1 : World, (Instr.index 227 (.agg signCells) (.int .i64 k)).run Tryz.prog w1 = .ok (.agg #[.string (sgn k).1, .int .i64 (sgn k).2.1, .int .i64 (sgn k).2.2]) w1 := by
    intro k hk w1
    rcases (by omega : k = 0 ∨ k = 1 ∨ k = 2 ∨ k = 3 ∨ k = 4 ∨ k = 5 ∨ k = 6 ∨ k = 7 ∨ k = 8) with rfl | rfl | rfl | rfl | rfl | rfl | rfl | rfl | rfl <;> kernel_rfl
  go_enter Tryz.func118, Tryz.ntmps118
  go_wp2_with (refine wpList_load_row rfl 227 _ rfl 5 rfl tt _ fr _ hg Tryz.underlying227 rfl hsz ?_)
  clear hsz hg
  go_loopg [8] 9 (fun g i wr => ∃ k : Nat, k ≤ 9 ∧ g = 9 - k ∧ i = .int .i64 k ∧ Hid (∀ j, j < k → hit lev S j = false) ∧ Cx wr r S ∧ Hid (Add w wr))
  case atStart => exact ⟨0, by omega, rfl, rfl, fun j hj => by omega, cx, Add.refl _⟩
  case round =>
    clear cx
    obtain ⟨k, hk, rfl, rfl, HN, cx, HA⟩ := hrel
    by_cases hk9 : k < 9
    · have hi := hidx k hk9
      have HJ := hide (fun h => joiner_hit (lev := lev) (S := S) hk9 h (unhide HN))
      have HH := hide (show hit lev S k = ((sgn k).2.2 == lev && S.is (sgn k).1) from rfl)
      clear hidx
      generalize sgn k = z at *
      obtain ⟨m, kd, st⟩ := z
      have hcx := hide cx
      clear cx
      by_cases hst : st = lev
      · subst hst
        cases hq : S.is m with
        | true =>
          go_wp2
          go_quiet ((go_at_call 113; exact Calls.quiet_of_same (is_q (unhide hcx).rd _ _ m hq)))
          go_wp2
          go_ret
          rw [unhide HJ (by rw [unhide HH, hq]; simp)]
          exact ⟨rfl, ((unhide hcx).alloc _).drewN _, ((unhide HA).alloc _).drewN _⟩
        | false =>
          go_wp2
          go_quiet ((go_at_call 113; exact Calls.quiet_of_same (is_q (unhide hcx).rd _ _ m hq)))
          go_wp2
          go_roundg (9 - (k + 1))
          case measure => omega
          case rel => exact ⟨k + 1, by omega, rfl, by go_num, fun j hj => by
            by_cases e : j = k
            · subst e; rw [unhide HH]; rw [hq]; simp
            · exact unhide HN j (by omega), ((unhide hcx).alloc _).drewN _, ((unhide HA).alloc _).drewN _⟩
      · have b0 : ((st : Int) == (lev : Int)) = false := by rw [beq_eq_false_iff_ne]; omega
        have b1 : (st == lev) = false := by rw [beq_eq_false_iff_ne]; exact hst
        go_wp2
        go_quiet (fail)
        go_wp2
        go_roundg (9 - (k + 1))
        case measure => omega
        case rel => exact ⟨k + 1, by omega, rfl, by go_num, fun j hj => by
          by_cases e : j = k
          · subst e; rw [unhide HH]; rw [b1]; rfl
          · exact unhide HN j (by omega), ((unhide hcx).alloc _).drewN _, ((unhide HA).alloc _).drewN _⟩
    · have hk9' : decide ((k : Int) < 9) = false := by simp; omega
      obtain rfl : k = 9 := by omega
      have HJ := hide (joiner_none (lev := lev) (S := S) (unhide HN))
      clear HN hidx
      go_wp2
      go_ret
      rw [unhide HJ]
      exact ⟨rfl, cx, unhide HA⟩
end Go.Proofs.YtcpjefdbgjlnnaaGreatDoor

namespace Go.Proofs.YtcpjefdbgjlnnaaGreatDoor
open Go.RowKit
attribute [local go_sem ↓] Go.wp_at_zero Go.wp_at_succ

theorem ent_args (r : Nat) : ∀ w : World, Sem.run Tryz.prog (callFunc 179 #[.pointer (some ⟨r, 0, none⟩)]) w = .ok (.enter 179 #[.pointer (some ⟨r, 0, none⟩)]) w := fun _ => by kernel_rfl
theorem args_none {w : World} {r D : Nat} {S : LS} (cx : Cx w r S) (hD : S.dp = D) {L : Low} (hL : LowC r D L) (hN : ∀ us S1, argsP L S = .inr (us, S1) → us = []) :
    Calls Tryz.prog 179 #[.pointer (some ⟨r, 0, none⟩)] w fun e w' => Ret (argsP L S) r (fun us v _ => us = [] ∧ v = .slice none 0 0) e w' ∧ Ext r w w' := by
  refine Ret.call (args_any cx hD hL) ?_ ?_
  · intro f' w' hf hx
    exact ⟨Ret.inl hf, hx⟩
  · intro a S' v w' hf hv hc hx
    obtain ⟨vs, _, h0, _⟩ := hv
    exact ⟨Ret.inr hf ⟨hN _ _ hf, h0 (hN _ _ hf)⟩ hc, hx⟩
theorem args_cons {w : World} {r D : Nat} {S S1 : LS} (cx : Cx w r S) (hD : S.dp = D) {L : Low} (hL : LowC r D L) {us : List Tree} (hA : argsP L S = .inr (us, S1)) (h0 : us ≠ []) :
    Calls Tryz.prog 179 #[.pointer (some ⟨r, 0, none⟩)] w fun e w' => ∃ g cap xs, e = .returned (.slice (some ⟨g, 0, none⟩) xs.length cap) ∧ 0 < xs.length ∧ xs.length ≤ 8 ∧ Hid (Lst w.heap.size w' (.slice (some ⟨g, 0, none⟩) xs.length cap) xs us) ∧
      Hid (∀ j u, xs[j]? = some u → w'.cell? ((⟨g, 0, none⟩ : Addr).add j) = some u) ∧ Hid (∀ u ∈ xs, u.oneCell' = true) ∧ Cx w' r S1 ∧ Ext r w w' := by
  refine Ret.call (args_any cx hD hL) ?_ ?_
  · intro f' w' hf hx
    rw [hA] at hf
    cases hf
  · intro a S' v w' hf hv hc hx
    rw [hA] at hf
    cases hf
    obtain ⟨xs, hl, _, h8⟩ := hv
    have hp : 0 < us.length := List.length_pos_iff.2 h0
    obtain ⟨g, cap, rfl, hn, h1, _⟩ := hl.lies hp
    have hlen := hl.len
    exact ⟨g, cap, xs, rfl, by omega, by omega, hl, hn, h1, hc, hx⟩
/-- The list of a node with kids. -/
theorem Und.kform {lo : Nat} {w : World} {b k : Nat} {tx un : ByteArray} {n : Int} {ln : Nat} {ts : List Tree} {ks : Value} {vs : List Value} (h : Und (fun j => lo ≤ j) w b k tx un n ln ts ks vs) (hp : 0 < vs.length) : ∃ g cap, ks = .slice (some ⟨g, 0, none⟩) vs.length cap ∧ vs.length ≤ cap := by
  rcases h.row with ⟨rfl, rfl⟩ | ⟨g, cap, cur, rfl, _, _, h4, _⟩
  · exact absurd hp (by decide)
  · exact ⟨g, cap, rfl, h4⟩

set_option maxRecDepth 100000 in
set_option maxHeartbeats 8000000 in
theorem member_any {w : World} {r D : Nat} {S : LS} (cx : Cx w r S) (hD : S.dp = D) {L : Low} (hL : LowC r D L) {w0 : World} {b : Nat} {t : Tree} (hx0 : Ext r w0 w) (hr0 : r + 18 < w0.heap.size) (hf0 : NodeAt (fun j => w0.heap.size ≤ j) w (.pointer (some ⟨b, 0, none⟩)) t) :
    Calls Tryz.prog 176 #[.pointer (some ⟨r, 0, none⟩), .pointer (some ⟨b, 0, none⟩)] w fun e w' => Ret (memberP L t S) r (vNode w0.heap.size) e w' ∧ Ext r w0 w' := by
  obtain ⟨i0, hi, hz0, hz1, hz2⟩ := info_parts infoNode
  have HL := hide hL
  clear hL
  have HX0 := hide hx0
  clear hx0
  have HF0 := hide hf0
  clear hf0
  have hd0 := hD
  have HC0 := hide cx
  clear cx
  go_enter Tryz.func176, Tryz.ntmps176
  go_wp2_with fail
  refine (around_one (k := 42) (unhide HX0).size (unhide HF0)).mono ?_
  rintro e w1 ⟨n, ks1, rfl, hn, hu, ha⟩
  have hn0 : w0.heap.size ≤ n := Nat.le_trans (unhide HX0).size hn
  have HU1 := hide hu
  have HX1 := hide ((unhide HX0).trans (ha.ext r))
  have HC1 := hide ((unhide HC0).add ha)
  have hd1 := hd0
  clear hu ha hn HC0 HX0 HF0
  go_wp2_with fail
  refine Ret.call (name_any (unhide HC1)) ?_ ?_
  · intro f wz hf hx
    exact ⟨rfl, Ret.inl (bnd_inl hf), (unhide HX1).trans hx⟩
  intro s2 S2 v w2 hf hv cx2 hx
  obtain rfl : v = .string s2 := hv
  have hon2 := name_on (unhide HC1).ok hf
  have hd2 : S2.dp = D := hon2.same.dp.trans hd1
  have HP2 := hide (show (memberP L t S) = _ from bnd_inr hf)
  have HU2 := hide ((unhide HU1).ext hx fun j hj => by omega)
  have HX2 := hide ((unhide HX1).trans hx)
  have HC2 := hide cx2
  clear hf hx cx2 HC1 HX1 hd1 HU1
  obtain ⟨t0, hb⟩ := (unhide HU2).cells
  have dq : w2.cell? ⟨n, 1, none⟩ = some (.string noText) := hcell hb 1
  have gq := hfroz hb 1
  clear hb
  have HU3 := hide ((unhide HU2).put 1 (.string s2) (tx' := s2) rfl)
  have HX3 := hide ((unhide HX2).setNew ⟨n, 1, none⟩ hn0 (.string s2))
  have HC3 := hide ((unhide HC2).setCell (show r + 18 < n by omega) 1 (.string s2))
  have hd3 := hd2
  clear HU2 HX2 HC2
  go_wp2_with fail
  refine Ret.call (accept_any (unhide HC3) tOpen) ?_ ?_
  · intro f wz hf hx
    exact ⟨rfl, Ret.inl ((unhide HP2).trans (bnd_inl hf)), (unhide HX3).trans hx⟩
  intro b4 S4 v w4 hf hv cx4 hx
  obtain rfl : v = .bool b4 := hv
  have hon4 := (accept_on (unhide HC3).ok hf).1
  have hd4 : S4.dp = D := hon4.same.dp.trans hd3
  have HP4 := hide ((unhide HP2).trans (bnd_inr hf))
  have HU4 := hide ((unhide HU3).ext hx fun j hj => by omega)
  have HX4 := hide ((unhide HX3).trans hx)
  have HC4 := hide cx4
  clear hf hx cx4 HC3 HX3 hd3 HP2 HU3
  clear dq gq
  cases b4 with
  | false =>
    have HPf : Hid (memberP L t S = .inr (ndT 42 s2 t.line [t], S4)) := unhide HP4
    clear HP4
    go_wp2_with fail
    go_ret
    exact ⟨Ret.inr (unhide HPf) ((unhide HU4).node) (unhide HC4), unhide HX4⟩
  | true =>
    have HPt : Hid (memberP L t S = bnd (argsP L S4) fun us S3 => .inr (ndT 43 s2 t.line (t :: us), S3)) := unhide HP4
    clear HP4
    have hent := ent_args r
    obtain ⟨g1, cap1, rfl, hcap⟩ := (unhide HU4).kform (by simp)
    have hcap1 : 1 ≤ cap1 := hcap
    clear hcap
    obtain ⟨t0, hb⟩ := (unhide HU4).cells
    have d5 : w4.cell? ⟨n, 5, none⟩ = some (.slice (some ⟨g1, 0, none⟩) 1 cap1) := hcell hb 5
    have g5 := hfroz hb 5
    have d0 : w4.cell? ⟨n, 0, none⟩ = some (.int .i64 42) := hcell hb 0
    have g0 := hfroz hb 0
    clear hb
    by_cases hc : ∃ us S5, argsP L S4 = .inr (us, S5) ∧ us ≠ []
    rotate_left
    ·
      have HN : Hid (∀ us S1, argsP L S4 = .inr (us, S1) → us = []) := fun us S1 h => Classical.byContradiction fun h0 => hc ⟨us, S1, h, h0⟩
      clear hc
      go_wp2_with fail
      go_region_law (refine step_call rfl (by simp [Act.eval, hent, go_sem]) (Ret.call (args_none (unhide HC4).drew hd4 (unhide HL) (unhide HN)) (fun f w2 hf hx => ⟨rfl, Ret.inl ((unhide HPt).trans (bnd_inl hf)), ((unhide HX4).drew).trans hx⟩) ?_); intro us S5 v w5 hf hv cx5 hx; obtain ⟨rfl, rfl⟩ := hv; have HP5 := hide ((unhide HPt).trans (bnd_inr hf)); have HU5 := hide ((unhide HU4).drew.ext hx fun j hj => by omega); have HX5 := hide (((unhide HX4).drew).trans hx); have HC5 := hide cx5; clear hf cx5 hx; obtain ⟨t5, hb5⟩ := (unhide HU5).cells; have e5 : w5.cell? ⟨n, 5, none⟩ = some (.slice (some ⟨g1, 0, none⟩) 1 cap1) := hcell hb5 5; have f5 := hfroz hb5 5; have e0 : w5.cell? ⟨n, 0, none⟩ = some (.int .i64 42) := hcell hb5 0; have f0 := hfroz hb5 0; clear hb5)
      all_goals
        go_wp2_with fail
        go_ret
        exact ⟨Ret.inr (unhide HP5) (((unhide HU5).put 0 (.int .i64 43) (k' := 43) rfl).put 5 (.slice (some ⟨g1, 0, none⟩) 1 cap1) rfl).node (((unhide HC5).setCell (show r + 18 < n by omega) _ _).setCell (show r + 18 < n by omega) _ _), ((unhide HX5).setNew ⟨n, 0, none⟩ hn0 _).setNew ⟨n, 5, none⟩ hn0 _⟩
    · obtain ⟨us, S5, hA, hne⟩ := hc
      have HNE := hide hne
      have HP5 := hide ((unhide HPt).trans (bnd_inr hA))
      have HA := hide hA
      clear hA HPt hne
      go_wp2_with fail
      go_region_law ((first | (refine step_append_lies _ (by rfl) _ _ _ (by rfl) 0 22 i0 (.pointer none) 1 8 Tryz.underlying42 hi hz0 hz1 hz2 rfl (by decide) (.slice (some ⟨g1, 0, none⟩) 1 cap1) 1 [.pointer (some ⟨b, 0, none⟩)] (by rfl) (unhide HU5).row.owns ⟨g, 0, none⟩ xs.length cap xs (by rfl) (Nat.mul_one _).symm (unhide HN5) (unhide H15) hxs0 (by unfold maxLen; omega) (by omega) (Nat.zero_le _) w5.heap.size rfl ?_; intro g6 cap6 w6 hown hgrow hat hlt; have hq := kids_more 43 rfl (unhide HU4).drew (unhide HU5) hr0 (unhide HC5) (unhide HX5) (unhide HL5).len (fun i h => ((unhide HL5).kids i h).mono fun j hj => hj.1) hown hgrow hat; clear hown hgrow hat hlt; have e5 := hq.1; have f5 := hq.2.1; have e0 := hq.2.2.1; have f0 := hq.2.2.2.1; have HQ := hide hq; clear hq) | (refine step_call rfl (by simp [Act.eval, hent, go_sem]) ((args_cons (unhide HC4).drew hd4 (unhide HL) (unhide HA) (unhide HNE)).mono ?_); rintro e w5 ⟨g, cap, xs, rfl, hxs0, hxs8, HL5, HN5, H15, cx5, hx⟩; have HU5 := hide ((unhide HU4).drew.ext hx fun j hj => by omega); have HX5 := hide (((unhide HX4).drew).trans hx); have HC5 := hide cx5; clear cx5 hx; obtain ⟨t5, hb5⟩ := (unhide HU5).cells; have e5 : w5.cell? ⟨n, 5, none⟩ = some (.slice (some ⟨g1, 0, none⟩) 1 cap1) := hcell hb5 5; clear hb5)))
      all_goals
        go_wp2_with fail
        go_ret
        exact ⟨Ret.inr (unhide HP5) (unhide (unhide HQ).2.2.2.2.1).node (unhide (unhide HQ).2.2.2.2.2.2), unhide (unhide HQ).2.2.2.2.2.1⟩

end Go.Proofs.YtcpjefdbgjlnnaaGreatDoor

namespace Go.Proofs.YtcpjefdbgjlnnaaGreatDoor
open Go.RowKit
attribute [local go_sem ↓] Go.wp_at_zero Go.wp_at_succ

theorem Lst.mono {lo lo2 : Nat} {w : World} {ks : Value} {vs : List Value} {ts : List Tree} (h : Lst lo w ks vs ts) (hle : lo2 ≤ lo) : Lst lo2 w ks vs ts :=
  ⟨h.row.keep (fun _ hj => Nat.le_trans hle hj) (fun _ _ _ => rfl), h.len, fun i hi => (h.kids i hi).mono fun _ hj => ⟨Nat.le_trans hle hj.1, hj.2⟩⟩

set_option maxRecDepth 100000 in
set_option maxHeartbeats 8000000 in
theorem suffixed_any {w : World} {r D : Nat} {S : LS} (cx : Cx w r S) (hD : S.dp = D) {L : Low} (hL : LowC r D L) :
    Calls Tryz.prog 114 #[.pointer (some ⟨r, 0, none⟩)] w fun e w' => Ret (suffixedP L S) r (vNode w.heap.size) e w' ∧ Ext r w w' := by
  obtain ⟨i0, hi, hz0, hz1, hz2⟩ := info_parts infoNode
  have hr0 := cx.jc.lt
  have HL := hide hL
  clear hL
  have HX0 : Hid (Ext r w w) := Ext.refl r w
  have hd0 := hD
  have HC0 := hide cx
  clear cx
  go_enter Tryz.func114, Tryz.ntmps114
  go_wp2_with fail
  refine Ret.call (simple_any (unhide HC0) hd0 (unhide HL)) ?_ ?_
  · intro f wz hf hx
    exact ⟨rfl, Ret.inl (bnd_inl hf), (unhide HX0).trans hx⟩
  intro t1 S1 v w1 hf hv cx1 hx1
  obtain ⟨b1, rfl⟩ := vNode_ptr hv
  have hon1 := simpleP_good (unhide HL).good _ _ _ (unhide HC0).ok hf
  have hd1 : S1.dp = D := hon1.same.dp.trans hd0
  have HP1 : Hid (suffixedP L S = sufLoop L 3002 t1 S1) := bnd_inr hf
  have HN1 := hide hv
  have HX1 := hide ((unhide HX0).trans hx1)
  clear hf hv hx1 hon1 HX0 HC0
  go_wp2_with fail
  go_loopg [3] 3002 (fun gg l wr => ∃ (S' : LS) (b : Nat) (t : Tree), l = .pointer (some ⟨b, 0, none⟩) ∧ Cx wr r S' ∧ S'.dp = D ∧ Hid (NodeAt (fun j => w.heap.size ≤ j) wr (.pointer (some ⟨b, 0, none⟩)) t) ∧ Hid (Ext r w wr) ∧ 3002 ≤ gg + S'.tp ∧ Hid (sufLoop L gg t S' = suffixedP L S))
  case atStart => exact ⟨S1, b1, t1, rfl, cx1, hd1, unhide HN1, unhide HX1, by omega, (unhide HP1).symm⟩
  case round =>
    clear cx1 hd1 HN1 HX1 HP1 hd0
    obtain ⟨S', b, t, rfl, cx, hdp, HN, HX, hgg, HE⟩ := hrel
    have htp : S'.tp ≤ 3000 := Nat.le_trans cx.ok.tp (Nat.le_trans cx.ok.fit.pl cx.ok.fit.size)
    obtain ⟨f, hgf⟩ : ∃ f, gk = f + 1 := ⟨gk - 1, by omega⟩
    subst hgf
    have HE1 : Hid ((bnd (acceptP tDot S') fun b S1 => if b = true then bnd (memberP L t S1) fun u S2 => sufLoop L f u S2
    else bnd (acceptP tSquare S1) fun b S2 => if b = true then bnd (L.V S2) fun u S3 => bnd (wantP tSquared S3) fun _ S4 => sufLoop L f (around 44 t [u]) S4
    else bnd (acceptP tOpen S2) fun b S3 => if b = true then bnd (argsP L S3) fun us S4 => sufLoop L f (around 45 t us) S4 else .inr (t, S3)) = suffixedP L S) := unhide HE
    have HC := hide cx
    clear HE cx
    go_wp2_with fail
    refine Ret.call (accept_any (unhide HC) tDot) ?_ ?_
    · intro fl wz hf hx
      exact ⟨rfl, Ret.inl ((unhide HE1).symm.trans (bnd_inl hf)), (unhide HX).trans hx⟩
    intro c3 S3 v w3 hf hv cx3 hx
    obtain rfl : v = .bool c3 := hv
    have hon3 := accept_on (unhide HC).ok hf
    have hd3 : S3.dp = D := hon3.1.same.dp.trans hdp
    have HE3 := hide ((bnd_inr hf).symm.trans (unhide HE1))
    have HN3 := hide (NodeAt.ext (unhide HN) hx fun j hj => by omega)
    have HX3 := hide ((unhide HX).trans hx)
    have HC3 := hide cx3
    clear hf hx cx3 HE1 HN HX HC hdp
    cases c3 with
    | true =>
      have htp3 := (hon3.2.1 rfl).tp
      clear hon3
      have HE4 : Hid ((bnd (memberP L t S3) fun u S2 => sufLoop L f u S2) = suffixedP L S) := unhide HE3
      clear HE3
      go_wp2_with fail
      refine Ret.callX (X := Ext r w) (member_any (unhide HC3) hd3 (unhide HL) (unhide HX3) hr0 (unhide HN3)) ?_ ?_
      · intro fl wz hf hx
        exact ⟨rfl, Ret.inl ((unhide HE4).symm.trans (bnd_inl hf)), hx⟩
      intro u4 S4 v w4 hf hv cx4 hx4
      obtain ⟨b4, rfl⟩ := vNode_ptr hv
      have hon4 := memberP_on (unhide HL).good (unhide HC3).ok hf
      have hd4 : S4.dp = D := hon4.same.dp.trans hd3
      have htp4 := hon4.tp
      have HE5 := hide ((bnd_inr hf).symm.trans (unhide HE4))
      have HN4 := hide hv
      clear hf hv hon4 HE4 HN3 HX3 HC3
      go_wp2_with fail
      go_roundg f
      case measure => omega
      case rel => exact ⟨S4, b4, u4, rfl, cx4, hd4, unhide HN4, hx4, by omega, unhide HE5⟩
    | false =>
      obtain rfl := hon3.2.2 rfl
      clear hon3
      have HE4 : Hid ((bnd (acceptP tSquare S3) fun b S2 => if b = true then bnd (L.V S2) fun u S3 => bnd (wantP tSquared S3) fun _ S4 => sufLoop L f (around 44 t [u]) S4
    else bnd (acceptP tOpen S2) fun b S3 => if b = true then bnd (argsP L S3) fun us S4 => sufLoop L f (around 45 t us) S4 else .inr (t, S3)) = suffixedP L S) := unhide HE3
      clear HE3
      go_wp2_with fail
      refine Ret.call (accept_any (unhide HC3) tSquare) ?_ ?_
      · intro fl wz hf hx
        exact ⟨rfl, Ret.inl ((unhide HE4).symm.trans (bnd_inl hf)), (unhide HX3).trans hx⟩
      intro c5 S5 v w5 hf hv cx5 hx
      obtain rfl : v = .bool c5 := hv
      have hon5 := accept_on (unhide HC3).ok hf
      have hd5 : S5.dp = D := hon5.1.same.dp.trans hd3
      have HE5 := hide ((bnd_inr hf).symm.trans (unhide HE4))
      have HN5 := hide (NodeAt.ext (unhide HN3) hx fun j hj => by omega)
      have HX5 := hide ((unhide HX3).trans hx)
      have HC5 := hide cx5
      clear hf hx cx5 HE4 HN3 HX3 HC3 hd3
      cases c5 with
      | true =>
        have htp5 := (hon5.2.1 rfl).tp
        clear hon5
        have HE6 : Hid ((bnd (L.V S5) fun u S3 => bnd (wantP tSquared S3) fun _ S4 => sufLoop L f (around 44 t [u]) S4) = suffixedP L S) := unhide HE5
        clear HE5
        go_wp2_with fail
        refine Ret.call ((unhide HL).v _ _ (unhide HC5) hd5) ?_ ?_
        · intro fl wz hf hx
          exact ⟨rfl, Ret.inl ((unhide HE6).symm.trans (bnd_inl hf)), (unhide HX5).trans hx⟩
        intro u7 S7 v w7 hf hv cx7 hx
        obtain ⟨b7, rfl⟩ := vNode_ptr hv
        have hon7 := (unhide HL).good.v _ _ _ (unhide HC5).ok hf
        have hd7 : S7.dp = D := hon7.same.dp.trans hd5
        have htp7 := hon7.tp
        have HE7 := hide ((bnd_inr hf).symm.trans (unhide HE6))
        have HN7 := hide (NodeAt.ext (unhide HN5) hx fun j hj => by omega)
        have hsz5 := (unhide HX5).size
        have HM7 := hide (NodeAt.mono (A' := fun j => w.heap.size ≤ j) hv fun j hj => by omega)
        have HX7 := hide ((unhide HX5).trans hx)
        have HC7 := hide cx7
        clear hf hv hx cx7 hon7 HE6 HN5 HX5 HC5 hsz5
        go_wp2_with fail
        have ha7 : Add w7 (w7.alloc (.cells #[.pointer (some ⟨b7, 0, none⟩)] 22)) := (Add.refl w7).alloc _
        refine (around_two (k := 44) ((unhide HX7).alloc _).size ((unhide HN7).keep (fun _ h => h) (fun j _ hl => ha7.block j hl) _ _) ((unhide HM7).keep (fun _ h => h) (fun j _ hl => ha7.block j hl) _ _) (hnew _ _)).mono ?_
        rintro e w8 ⟨n8, ks8, rfl, hn8, hu8, ha8⟩
        have hq8 := ha7.trans ha8
        have HN8 := hide hu8.node
        have HX8 := hide ((unhide HX7).trans (hq8.ext r))
        have HC8 := hide ((unhide HC7).add hq8)
        clear hu8 ha8 ha7 hq8 hn8 HN7 HM7 HX7 HC7
        go_wp2_with fail
        refine Ret.call (want_any (unhide HC8) tSquared) ?_ ?_
        · intro fl wz hf hx
          exact ⟨rfl, Ret.inl ((unhide HE7).symm.trans (bnd_inl hf)), (unhide HX8).trans hx⟩
        intro a9 S9 v w9 hf hv cx9 hx
        obtain rfl : v = .tuple #[] := hv
        have hon9 := want_on (unhide HC8).ok hf
        have hd9 : S9.dp = D := hon9.same.dp.trans hd7
        have htp9 := hon9.tp
        have HE9 := hide ((bnd_inr hf).symm.trans (unhide HE7))
        have HN9 := hide (NodeAt.ext (unhide HN8) hx fun j hj => by omega)
        have HX9 := hide ((unhide HX8).trans hx)
        clear hf hx hon9 HE7 HN8 HX8 HC8
        go_wp2_with fail
        go_roundg f
        case measure => omega
        case rel => exact ⟨S9, n8, _, rfl, cx9, hd9, unhide HN9, unhide HX9, by omega, unhide HE9⟩
      | false =>
        obtain rfl := hon5.2.2 rfl
        clear hon5
        have HE6 : Hid ((bnd (acceptP tOpen S5) fun b S3 => if b = true then bnd (argsP L S3) fun us S4 => sufLoop L f (around 45 t us) S4 else .inr (t, S3)) = suffixedP L S) := unhide HE5
        clear HE5
        go_wp2_with fail
        refine Ret.call (accept_any (unhide HC5) tOpen) ?_ ?_
        · intro fl wz hf hx
          exact ⟨rfl, Ret.inl ((unhide HE6).symm.trans (bnd_inl hf)), (unhide HX5).trans hx⟩
        intro c7 S7 v w7 hf hv cx7 hx
        obtain rfl : v = .bool c7 := hv
        have hon7 := accept_on (unhide HC5).ok hf
        have hd7 : S7.dp = D := hon7.1.same.dp.trans hd5
        have HE7 := hide ((bnd_inr hf).symm.trans (unhide HE6))
        have HN7 := hide (NodeAt.ext (unhide HN5) hx fun j hj => by omega)
        have HX7 := hide ((unhide HX5).trans hx)
        have HC7 := hide cx7
        clear hf hx cx7 HE6 HN5 HX5 HC5 hd5
        cases c7 with
        | true =>
          have htp7 := (hon7.2.1 rfl).tp
          clear hon7
          have HE8 : Hid ((bnd (argsP L S7) fun us S4 => sufLoop L f (around 45 t us) S4) = suffixedP L S) := unhide HE7
          clear HE7
          go_wp2_with fail
          refine Ret.call (args_any (unhide HC7) hd7 (unhide HL)) ?_ ?_
          · intro fl wz hf hx
            exact ⟨rfl, Ret.inl ((unhide HE8).symm.trans (bnd_inl hf)), (unhide HX7).trans hx⟩
          intro us9 S9 v w9 hf hv cx9 hx
          have hon9 := listedP_good (unhide HL).good.v _ _ _ (unhide HC7).ok hf
          have hd9 : S9.dp = D := hon9.same.dp.trans hd7
          have htp9 := hon9.tp
          have HE9 := hide ((bnd_inr hf).symm.trans (unhide HE8))
          have hsz7 := (unhide HX7).size
          have HN9 := hide (NodeAt.ext (unhide HN7) hx fun j hj => by omega)
          have HX9 := hide ((unhide HX7).trans hx)
          have HC9 := hide cx9
          obtain ⟨vs, hl, h0, h8⟩ := hv
          obtain ⟨la, lcap, rfl⟩ := hl.form
          have HLS := hide (hl.mono hsz7)
          have H0 := hide h0
          have H8 := hide h8
          clear hf hx cx9 hon9 HE8 HN7 HX7 HC7 hl h0 h8 hsz7
          go_wp2_with fail
          refine (around_list (k := 45) (unhide HX9).size (unhide HN9) (unhide HLS) (unhide H0) (unhide H8)).mono ?_
          rintro e w10 ⟨n10, ks10, rfl, hn10, hu10, ha10⟩
          have HN10 := hide hu10.node
          have HX10 := hide ((unhide HX9).trans (ha10.ext r))
          have cx10 := (unhide HC9).add ha10
          clear hu10 ha10 hn10 HN9 HX9 HC9 HLS H0 H8
          go_wp2_with fail
          go_roundg f
          case measure => omega
          case rel => exact ⟨S9, n10, _, rfl, cx10, hd9, unhide HN10, unhide HX10, by omega, unhide HE9⟩
        | false =>
          obtain rfl := hon7.2.2 rfl
          have HE8 : Hid (Sum.inr (t, S7) = suffixedP L S) := unhide HE7
          clear HE7 hon7
          go_wp2_with fail
          go_ret
          exact ⟨Ret.inr (unhide HE8).symm (unhide HN7) (unhide HC7), unhide HX7⟩

end Go.Proofs.YtcpjefdbgjlnnaaGreatDoor

namespace Go.Proofs.YtcpjefdbgjlnnaaGreatDoor
open Go.RowKit
attribute [local go_sem ↓] Go.wp_at_zero Go.wp_at_succ

theorem ent_deep (r : Nat) : ∀ w : World, Sem.run Tryz.prog (callFunc 116 #[.pointer (some ⟨r, 0, none⟩), .func (.func 77) #[.pointer (some ⟨r, 0, none⟩)] #[]]) w = .ok (.enter 116 #[.pointer (some ⟨r, 0, none⟩), .func (.func 77) #[.pointer (some ⟨r, 0, none⟩)] #[]]) w := fun _ => by kernel_rfl

set_option maxRecDepth 100000 in
set_option maxHeartbeats 8000000 in
theorem prefixed_any_0 {w : World} {r D : Nat} {S : LS} (cx : Cx w r S) (hD : S.dp = D) {L : Low} (hL : LowC r D L) (hb0 : S.is tNot = true) :
    Calls Tryz.prog 77 #[.pointer (some ⟨r, 0, none⟩)] w fun e w' => Ret (signedP L 41 S) r (vNode w.heap.size) e w' ∧ Ext r w w' := by
  obtain ⟨i0, hi, hz0, hz1, hz2⟩ := info_parts infoNode
  have hr0 := cx.jc.lt
  have HL := hide hL
  clear hL
  have HX0 : Hid (Ext r w w) := Ext.refl r w
  have hd0 := hD
  have HC0 := hide cx
  clear cx
  go_enter Tryz.func77, Tryz.ntmps77
  have hk := is_kd hb0
  go_wp2_with fail
  refine (is_c (unhide HC0).rd tNot hb0).mono ?_
  rintro e wz ⟨rfl, rfl⟩
  go_wp2_with fail
  refine Ret.call (taken_any (unhide HC0) 41) ?_ ?_
  · intro f wz hf hx
    exact ⟨rfl, Ret.inl (bnd_inl hf), (unhide HX0).trans hx⟩
  intro a1 S1 v w1 hf hv cx1 hx
  obtain ⟨rfl, hu⟩ := hv
  have HU1 := hide hu
  have hon1 := take_on (unhide HC0).ok hk hf
  have hd1 : S1.dp = D := hon1.same.dp.trans hd0
  have HP1 := hide (show (signedP L 41 S) = _ from bnd_inr hf)
  have HX1 := hide ((unhide HX0).trans hx)
  have HC1 := hide cx1
  clear hf hx cx1 HC0 HX0 hd0 hu
  obtain ⟨ks1, vs1, HU⟩ : ∃ ks vs, Hid (Und (fun j => w.heap.size ≤ j) w1 w.heap.size 41 noText noText 0 S.tl ([]) ks vs) := ⟨_, _, unhide HU1⟩
  have hvs1 : vs1.length ≤ 3000 := by rw [(unhide HU).len]; exact (by simp : ([]).length ≤ 3000)
  obtain ⟨t0, hb⟩ := (unhide HU).cells
  have d5 : w1.cell? ⟨w.heap.size, 5, none⟩ = some ks1 := hcell hb 5
  have g5 := hfroz hb 5
  have hent := ent_deep r
  clear hb HU1
  go_wp2_with fail
  go_cut [] (fun wc => ∃ (t : Tree) (S4 : LS) (ks' : Value) (vs' : List Value), Hid (L.N S1 = .inr (t, S4)) ∧ Cx wc r S4 ∧ Hid (Und (fun j => w.heap.size ≤ j) wc w.heap.size 41 noText noText 0 S.tl ([] ++ [t]) ks' vs') ∧ Hid (Ext r w wc))
  case first =>
    go_region_law ((first | (refine step_append_lies _ (by rfl) _ _ _ (by rfl) 0 22 i0 (.pointer none) 1 8 Tryz.underlying42 hi hz0 hz1 hz2 rfl (by decide) ks1 vs1.length vs1 (by rfl) ((unhide HO2).alloc _) ⟨w2.heap.size, 0, none⟩ 1 1 [.pointer (some ⟨kb, 0, none⟩)] (by rfl) rfl (cell_one_new _ _ _) (fun u hu => by simp at hu; subst hu; rfl) (by decide) (by unfold maxLen; omega) (by omega) (Nat.zero_le _) (w2.heap.size + 1) (by simp) ?_; intro g cap w3 hown hgrow hat hlt; obtain ⟨e6, f6, HU3, HX3, HC3⟩ := kid_more rfl (unhide HU).drew (unhide HU2) hr0 (unhide HC2) (unhide HX2) (unhide HV2) _ hown hgrow hat; clear hown hgrow hat hlt) | (refine step_call rfl (by simp [Act.eval, hent, go_sem]) (Ret.call ((unhide HL).n _ _ (unhide HC1).drew hd1) (fun f w2 hf hx => ⟨rfl, Ret.inl ((unhide HP1).trans (bnd_inl hf)), ((unhide HX1).drew).trans hx⟩) ?_); intro t S1 v w2 hf hv cx1 hx; obtain ⟨kb, rfl⟩ := vNode_ptr hv; obtain ⟨e5, e5a, HO2, HU2⟩ := kid_call (unhide HU).drew hx (by omega); have HV2 := hide hv; have HC2 := hide cx1; have HX2 := hide (((unhide HX1).drew).trans hx); have HF := hide hf; clear hv cx1 hx hf)))
    all_goals
      go_wp2_with fail
      go_meet
      exact ⟨t, _, _, _, unhide HF, unhide HC3, unhide HU3, unhide HX3⟩
  case rest =>
    obtain ⟨t2, S2, ks2, vs2, HF, cx2, HU2, HX2⟩ := hcut
    have hon2 := (unhide HL).good.n _ _ _ (unhide HC1).ok (unhide HF)
    have hd2 : S2.dp = D := hon2.same.dp.trans hd1
    have HP2 := hide ((unhide HP1).trans (bnd_inr (unhide HF)))
    have HC2 := hide cx2
    clear d5 g5 hent HU HX1 HC1 HF cx2 hd1 hvs1 HP1
    go_wp2_with fail
    go_ret
    exact ⟨Ret.inr (unhide HP2) ((unhide HU2).node) (unhide HC2), unhide HX2⟩

set_option maxRecDepth 100000 in
set_option maxHeartbeats 8000000 in
theorem prefixed_any_1 {w : World} {r D : Nat} {S : LS} (cx : Cx w r S) (hD : S.dp = D) {L : Low} (hL : LowC r D L) (hb0 : S.is tNot = false) (hb1 : S.is tMinus = true) :
    Calls Tryz.prog 77 #[.pointer (some ⟨r, 0, none⟩)] w fun e w' => Ret (signedP L 40 S) r (vNode w.heap.size) e w' ∧ Ext r w w' := by
  obtain ⟨i0, hi, hz0, hz1, hz2⟩ := info_parts infoNode
  have hr0 := cx.jc.lt
  have HL := hide hL
  clear hL
  have HX0 : Hid (Ext r w w) := Ext.refl r w
  have hd0 := hD
  have HC0 := hide cx
  clear cx
  go_enter Tryz.func77, Tryz.ntmps77
  have hk := is_kd hb1
  go_wp2_with fail
  refine (is_c (unhide HC0).rd tNot hb0).mono ?_
  rintro e wz ⟨rfl, rfl⟩
  go_wp2_with fail
  refine (is_c (unhide HC0).rd tMinus hb1).mono ?_
  rintro e wz ⟨rfl, rfl⟩
  go_wp2_with fail
  refine Ret.call (taken_any (unhide HC0) 40) ?_ ?_
  · intro f wz hf hx
    exact ⟨rfl, Ret.inl (bnd_inl hf), (unhide HX0).trans hx⟩
  intro a1 S1 v w1 hf hv cx1 hx
  obtain ⟨rfl, hu⟩ := hv
  have HU1 := hide hu
  have hon1 := take_on (unhide HC0).ok hk hf
  have hd1 : S1.dp = D := hon1.same.dp.trans hd0
  have HP1 := hide (show (signedP L 40 S) = _ from bnd_inr hf)
  have HX1 := hide ((unhide HX0).trans hx)
  have HC1 := hide cx1
  clear hf hx cx1 HC0 HX0 hd0 hu
  obtain ⟨ks1, vs1, HU⟩ : ∃ ks vs, Hid (Und (fun j => w.heap.size ≤ j) w1 w.heap.size 40 noText noText 0 S.tl ([]) ks vs) := ⟨_, _, unhide HU1⟩
  have hvs1 : vs1.length ≤ 3000 := by rw [(unhide HU).len]; exact (by simp : ([]).length ≤ 3000)
  obtain ⟨t0, hb⟩ := (unhide HU).cells
  have d5 : w1.cell? ⟨w.heap.size, 5, none⟩ = some ks1 := hcell hb 5
  have g5 := hfroz hb 5
  have hent := ent_deep r
  clear hb HU1
  go_wp2_with fail
  go_cut [] (fun wc => ∃ (t : Tree) (S4 : LS) (ks' : Value) (vs' : List Value), Hid (L.N S1 = .inr (t, S4)) ∧ Cx wc r S4 ∧ Hid (Und (fun j => w.heap.size ≤ j) wc w.heap.size 40 noText noText 0 S.tl ([] ++ [t]) ks' vs') ∧ Hid (Ext r w wc))
  case first =>
    go_region_law ((first | (refine step_append_lies _ (by rfl) _ _ _ (by rfl) 0 22 i0 (.pointer none) 1 8 Tryz.underlying42 hi hz0 hz1 hz2 rfl (by decide) ks1 vs1.length vs1 (by rfl) ((unhide HO2).alloc _) ⟨w2.heap.size, 0, none⟩ 1 1 [.pointer (some ⟨kb, 0, none⟩)] (by rfl) rfl (cell_one_new _ _ _) (fun u hu => by simp at hu; subst hu; rfl) (by decide) (by unfold maxLen; omega) (by omega) (Nat.zero_le _) (w2.heap.size + 1) (by simp) ?_; intro g cap w3 hown hgrow hat hlt; obtain ⟨e6, f6, HU3, HX3, HC3⟩ := kid_more rfl (unhide HU).drew (unhide HU2) hr0 (unhide HC2) (unhide HX2) (unhide HV2) _ hown hgrow hat; clear hown hgrow hat hlt) | (refine step_call rfl (by simp [Act.eval, hent, go_sem]) (Ret.call ((unhide HL).n _ _ (unhide HC1).drew hd1) (fun f w2 hf hx => ⟨rfl, Ret.inl ((unhide HP1).trans (bnd_inl hf)), ((unhide HX1).drew).trans hx⟩) ?_); intro t S1 v w2 hf hv cx1 hx; obtain ⟨kb, rfl⟩ := vNode_ptr hv; obtain ⟨e5, e5a, HO2, HU2⟩ := kid_call (unhide HU).drew hx (by omega); have HV2 := hide hv; have HC2 := hide cx1; have HX2 := hide (((unhide HX1).drew).trans hx); have HF := hide hf; clear hv cx1 hx hf)))
    all_goals
      go_wp2_with fail
      go_meet
      exact ⟨t, _, _, _, unhide HF, unhide HC3, unhide HU3, unhide HX3⟩
  case rest =>
    obtain ⟨t2, S2, ks2, vs2, HF, cx2, HU2, HX2⟩ := hcut
    have hon2 := (unhide HL).good.n _ _ _ (unhide HC1).ok (unhide HF)
    have hd2 : S2.dp = D := hon2.same.dp.trans hd1
    have HP2 := hide ((unhide HP1).trans (bnd_inr (unhide HF)))
    have HC2 := hide cx2
    clear d5 g5 hent HU HX1 HC1 HF cx2 hd1 hvs1 HP1
    go_wp2_with fail
    go_ret
    exact ⟨Ret.inr (unhide HP2) ((unhide HU2).node) (unhide HC2), unhide HX2⟩

set_option maxRecDepth 100000 in
set_option maxHeartbeats 8000000 in
theorem prefixed_any_2 {w : World} {r D : Nat} {S : LS} (cx : Cx w r S) (hD : S.dp = D) {L : Low} (hL : LowC r D L) (hb0 : S.is tNot = false) (hb1 : S.is tMinus = false) :
    Calls Tryz.prog 77 #[.pointer (some ⟨r, 0, none⟩)] w fun e w' => Ret (suffixedP L S) r (vNode w.heap.size) e w' ∧ Ext r w w' := by
  obtain ⟨i0, hi, hz0, hz1, hz2⟩ := info_parts infoNode
  have hr0 := cx.jc.lt
  have HL := hide hL
  clear hL
  have HX0 : Hid (Ext r w w) := Ext.refl r w
  have hd0 := hD
  have HC0 := hide cx
  clear cx
  go_enter Tryz.func77, Tryz.ntmps77
  go_wp2_with fail
  refine (is_c (unhide HC0).rd tNot hb0).mono ?_
  rintro e wz ⟨rfl, rfl⟩
  go_wp2_with fail
  refine (is_c (unhide HC0).rd tMinus hb1).mono ?_
  rintro e wz ⟨rfl, rfl⟩
  go_wp2_with fail
  refine Ret.call (suffixed_any (unhide HC0) hd0 (unhide HL)) ?_ ?_
  · intro f wz hf hx
    exact ⟨rfl, Ret.inl (hf), (unhide HX0).trans hx⟩
  intro t9 S9 v w9 hf hv cx9 hx9
  obtain ⟨kb, rfl⟩ := vNode_ptr hv
  have HP9 := hide (hf)
  have HV9 := hide hv
  clear hf hv
  go_wp2_with fail
  go_ret
  exact ⟨Ret.inr (unhide HP9) (unhide HV9) cx9, (unhide HX0).trans hx9⟩

theorem prefixed_any {w : World} {r D : Nat} {S : LS} (cx : Cx w r S) (hD : S.dp = D) {L : Low} (hL : LowC r D L) :
    Calls Tryz.prog 77 #[.pointer (some ⟨r, 0, none⟩)] w fun e w' => Ret (prefixedP L S) r (vNode w.heap.size) e w' ∧ Ext r w w' := by
  cases hb0 : S.is tNot with
  | true =>
    rw [show prefixedP L S = (signedP L 41 S) by rw [prefixedP, if_pos hb0]]
    exact prefixed_any_0 cx hD hL hb0
  | false =>
    cases hb1 : S.is tMinus with
    | true =>
      rw [show prefixedP L S = (signedP L 40 S) by rw [prefixedP, if_neg (by rw [hb0]; decide), if_pos hb1]]
      exact prefixed_any_1 cx hD hL hb0 hb1
    | false =>
      rw [show prefixedP L S = (suffixedP L S) by rw [prefixedP, if_neg (by rw [hb0]; decide), if_neg (by rw [hb1]; decide)]]
      exact prefixed_any_2 cx hD hL hb0 hb1

end Go.Proofs.YtcpjefdbgjlnnaaGreatDoor
