/-
  Nodes around others.
  Nodes around others, as nodes that are being made.
  How many nodes there are; what was thrown.
-/
import Derived.Test.YtndgajlidckcdaaGreatDoorB10
namespace Go.Proofs.YtndgajlidckcdaaGreatDoor
open Go.RowKit
attribute [local go_sem ↓] Go.wp_at_zero Go.wp_at_succ

/-- Memory has been added, and nothing else. -/
structure Add (w w' : World) : Prop where
  os : w'.os = w.os
  tape : w'.tape = w.tape
  output : w'.output = w.output
  size : w.heap.size ≤ w'.heap.size
  block : ∀ k, k < w.heap.size → w'.heap[k]? = w.heap[k]?
theorem Add.ext {w w' : World} (h : Add w w') (r : Nat) : Ext r w w' := ⟨h.os, h.tape, h.output, h.size, fun k hk _ => h.block k hk⟩
theorem Add.refl (w : World) : Add w w := ⟨rfl, rfl, rfl, Nat.le_refl _, fun _ _ => rfl⟩
theorem Add.drew {w w' : World} (h : Add w w') : Add w w'.drew := ⟨h.os, h.tape, h.output, h.size, h.block⟩
theorem Add.alloc {w w' : World} (h : Add w w') (o : Obj) : Add w (w'.alloc o) :=
  ⟨h.os, h.tape, h.output, Nat.le_trans h.size (by simp), fun k hk => (hold _ _ (Nat.lt_of_lt_of_le hk h.size)).trans (h.block k hk)⟩
theorem Add.grown {w w' w'' : World} (h : Add w w') {row : Option Nat} (hg : w'.grownBy w'' row) (hr : ∀ j, row = some j → w.heap.size ≤ j) : Add w w'' := by
  have hx := ext_grown (r := w''.heap.size) (h.ext _) hg hr
  refine ⟨hx.os, hx.tape, hx.output, hx.size, fun k hk => ?_⟩
  exact hx.block k hk (by have := hx.size; omega)
theorem Cx.add {w w' : World} {r : Nat} {S : LS} (h : Cx w r S) (ha : Add w w') : Cx w' r S := by
  have hr := h.rd
  refine h.ext (ha.ext r) ?_ h.ok rfl
  obtain ⟨t, hb⟩ := hr
  exact ⟨t, (ha.block r (Array.getElem?_eq_some_iff.1 hb).1).trans hb⟩

/-- How 'around' comes back. -/
def Arnd (w : World) (k ln b : Nat) (news : List Value) (e : Ending) (w' : World) : Prop := ∃ n ks t, e = .returned (.pointer (some ⟨n, 0, none⟩)) ∧ w.heap.size ≤ n ∧ w'.heap[n]? = some (.cells (ncells k noText noText 0 ln ks) t (0, 0)) ∧
  Row (fun j => w.heap.size ≤ j ∧ j ≠ n) w' ks (.pointer (some ⟨b, 0, none⟩) :: news) ∧ Add w w'

theorem arnd_end {w w3 : World} {k ln b : Nat} {news : List Value} {g cap t : Nat} (hown : w3.ownsRow 0 22 1 (.slice (some ⟨g, 0, none⟩) (1 + news.length) cap) (1 + news.length) (.pointer (some ⟨b, 0, none⟩) :: news))
    (hg : w.heap.size ≤ g) (hg3 : g < w3.heap.size) (ha : Add w w3) {n : Nat} (hn : n = w3.heap.size) :
    Arnd w k ln b news (.returned (.pointer (some ⟨n, 0, none⟩))) (w3.alloc (.cells (ncells k noText noText 0 ln (.slice (some ⟨g, 0, none⟩) (1 + news.length) cap)) t)) := by
  subst hn
  refine ⟨w3.heap.size, _, t, rfl, ha.size, hnew _ _, ?_, ha.alloc _⟩
  have hl : (Value.pointer (some ⟨b, 0, none⟩) :: news).length = 1 + news.length := by simp; omega
  have hrow : Row (fun j => j = g) w3 (.slice (some ⟨g, 0, none⟩) (Value.pointer (some ⟨b, 0, none⟩) :: news).length cap) (.pointer (some ⟨b, 0, none⟩) :: news) := Row.of_owns (by rw [hl]; exact hown) rfl
  rw [hl] at hrow
  exact hrow.keep (fun j hj => by rw [hj]; exact ⟨hg, by omega⟩) fun j _ hl => hold _ _ hl

theorem Arnd.drew {w w' : World} {k ln b : Nat} {news : List Value} {e : Ending} (h : Arnd w k ln b news e w') : Arnd w k ln b news e w'.drew := by
  obtain ⟨n, ks, t, h1, h2, h3, h4, h5⟩ := h
  exact ⟨n, ks, t, h1, h2, h3, h4, h5.drew⟩
theorem owns_one (w : World) (v : Value) : (w.alloc (.cells #[v] 22)).ownsRow 0 22 1 (.slice (some ⟨w.heap.size, 0, none⟩) 1 1) 1 [v] :=
  ⟨rfl, Or.inr ⟨w.heap.size, 1, #[v], rfl, Nat.zero_le _, hnew _ _, Nat.le_refl _, by unfold maxLen; omega, rfl, rfl⟩⟩

set_option maxRecDepth 100000 in
set_option maxHeartbeats 4000000 in
theorem around_none {w : World} {k b ln : Nat} (hc : w.cell? ⟨b, 4, none⟩ = some (.int .i64 ln)) (hbw : b < w.heap.size) :
    Calls Tryz.prog 115 #[.int .i64 k, .pointer (some ⟨b, 0, none⟩), .slice none 0 0] w (Arnd w k ln b []) := by
  have hca : ∀ o, (w.alloc o).cell? ⟨b, 4, none⟩ = some (.int .i64 ln) := fun o => (World.cell?_of_block (hold w o hbw)).trans hc
  go_enter Tryz.func115, Tryz.ntmps115
  go_wp2_with fail
  go_region_law (fail)
  all_goals
    go_wp2_with fail
    go_ret
    exact Arnd.drew (arnd_end (news := []) (owns_one w _) (Nat.le_refl _) (by simp) ((Add.refl w).alloc _) (by simp))
theorem add_block (ad : Addr) (j : Nat) : (ad.add j).block = ad.block := by
  unfold Addr.add
  split <;> rfl

theorem arnd_grow {w w3 : World} {b ln : Nat} {o : Obj} {g : Nat} (hbw : b < w.heap.size) (hca : (w.alloc o).cell? ⟨b, 4, none⟩ = some (.int .i64 ln)) (hgrow : (w.alloc o).drew.grownBy w3 (some w.heap.size)) (hat : some w.heap.size = some g ∨ g = w.heap.size + 1) :
    w3.cell? ⟨b, 4, none⟩ = some (.int .i64 ln) ∧ Hid (Add w w3) ∧ Hid (w.heap.size ≤ g) := by
  refine ⟨(hgrow.cell_far ⟨b, 4, none⟩ (by show b < (w.alloc o).heap.size; simp; omega) (by simp; omega)).trans hca, Add.grown (w := w) ((Add.refl w).alloc o).drew hgrow (fun j hj => by simp at hj; omega), ?_⟩
  rcases hat with h | h
  · simp at h; exact hide (by omega)
  · exact hide (by omega)

set_option maxRecDepth 100000 in
set_option maxHeartbeats 4000000 in
theorem around_some {w : World} {k b ln : Nat} (hc : w.cell? ⟨b, 4, none⟩ = some (.int .i64 ln)) (hbw : b < w.heap.size) {ad : Addr} {m c : Nat} {news : List Value} (hlen : m = news.length) (hn : ∀ j u, news[j]? = some u → w.cell? (ad.add j) = some u) (h1 : ∀ u ∈ news, u.oneCell' = true) (hm : 0 < m) (hm8 : m ≤ 100) (had : ad.block < w.heap.size) :
    Calls Tryz.prog 115 #[.int .i64 k, .pointer (some ⟨b, 0, none⟩), .slice (some ad) m c] w (Arnd w k ln b news) := by
  have hca : ∀ o, (w.alloc o).cell? ⟨b, 4, none⟩ = some (.int .i64 ln) := fun o => (World.cell?_of_block (hold w o hbw)).trans hc
  have HN : Hid (∀ (o : Obj) (j : Nat) (u : Value), news[j]? = some u → (w.alloc o).cell? (ad.add j) = some u) := fun o j u hu => (World.cell?_of_block (hold w o (by rw [add_block]; exact had))).trans (hn j u hu)
  have H1 := hide h1
  clear hn h1
  subst hlen
  obtain ⟨i0, hi, hz0, hz1, hz2⟩ := info_parts infoNode
  go_enter Tryz.func115, Tryz.ntmps115
  go_wp2_with fail
  go_region_law? (refine step_append_lies _ (by rfl) _ _ _ (by rfl) 0 22 i0 (.pointer none) 1 8 Tryz.underlying51 hi hz0 hz1 hz2 rfl (by decide) (.slice (some ⟨w.heap.size, 0, none⟩) 1 1) 1 [.pointer (some ⟨b, 0, none⟩)] (by rfl) (owns_one w (.pointer (some ⟨b, 0, none⟩))) ad news.length c news (by rfl) (Nat.mul_one _).symm (unhide HN (.cells #[.pointer (some ⟨b, 0, none⟩)] 22)) (unhide H1) hm (by unfold maxLen; omega) (by omega) (Nat.zero_le _) (w.heap.size + 1) (by simp) ?_; intro g cap w3 hown hgrow hat hlt; have HT3 := hide hlt; clear hlt; have HO3 := hide hown; clear hown; have hq := arnd_grow hbw (hca (.cells #[.pointer (some ⟨b, 0, none⟩)] 22)) hgrow hat; clear hgrow hat; have e4 := hq.1; have HQ := hide hq; clear hq)
  all_goals
    go_wp2_with fail
    go_ret
    exact arnd_end (news := news) (unhide HO3) (unhide (unhide HQ).2.2) (unhide HT3) (unhide (unhide HQ).2.1) rfl
end Go.Proofs.YtndgajlidckcdaaGreatDoor

namespace Go.Proofs.YtndgajlidckcdaaGreatDoor
open Go.RowKit
attribute [local go_sem ↓] Go.wp_at_zero Go.wp_at_succ

theorem Add.trans {a b c : World} (h : Add a b) (k : Add b c) : Add a c :=
  ⟨k.os.trans h.os, k.tape.trans h.tape, k.output.trans h.output, Nat.le_trans h.size k.size, fun i hi => (k.block i (Nat.lt_of_lt_of_le hi h.size)).trans (h.block i hi)⟩

/-- What 'around' makes, as a node that is being made. -/
theorem Arnd.und {lo : Nat} {w w' : World} {k ln b : Nat} {news : List Value} {e : Ending} (h : Arnd w k ln b news e w') {t : Tree} {ts : List Tree} (hlo : lo ≤ w.heap.size)
    (hf : NodeAt (fun j => lo ≤ j) w (.pointer (some ⟨b, 0, none⟩)) t) (hlen : news.length = ts.length) (hk : ∀ (i : Nat) (h : i < ts.length), NodeAt (fun j => lo ≤ j) w (news.getD i undef) ts[i]) :
    ∃ n ks, e = .returned (.pointer (some ⟨n, 0, none⟩)) ∧ w.heap.size ≤ n ∧ Und (fun j => lo ≤ j) w' n k noText noText 0 ln (t :: ts) ks (.pointer (some ⟨b, 0, none⟩) :: news) ∧ Add w w' := by
  obtain ⟨n, ks, ty, h1, h2, h3, h4, h5⟩ := h
  have hks : ∀ j, ks.ownBlock = some j → w.heap.size ≤ j := by
    intro j hj
    rcases h4 with ⟨rfl, _⟩ | ⟨g', cap', cur, rfl, hg', _⟩
    · simp [Value.ownBlock] at hj
    · simp only [Value.ownBlock, Option.some.injEq] at hj
      subst hj
      exact hg'.1
  have keepK : ∀ (v : Value) (u : Tree), NodeAt (fun j => lo ≤ j) w v u → NodeAt (fun j => lo ≤ j ∧ j ≠ n ∧ some j ≠ ks.ownBlock) w' v u := fun v u hu =>
    (hu.lt u v).keep (fun j hj => ⟨hj.1, by omega, fun e => by have := hks j e.symm; omega⟩) (fun j hj hl => h5.block j hl) u v
  refine ⟨n, ks, h1, h2, ⟨(by show lo ≤ n; omega), ⟨ty, h3⟩, h4.keep (fun j hj => ⟨by omega, hj.2⟩) (fun _ _ _ => rfl), by simp [hlen], ?_⟩, h5⟩
  intro i hi
  cases i with
  | zero => exact keepK _ _ hf
  | succ i =>
    have hi' : i < ts.length := by simpa using hi
    exact keepK _ _ (hk i hi')

/-- The line of a node in memory. -/
theorem NodeAt.line {A : Nat → Prop} {w : World} {b : Nat} {t : Tree} (h : NodeAt A w (.pointer (some ⟨b, 0, none⟩)) t) : w.cell? ⟨b, 4, none⟩ = some (.int .i64 t.line) ∧ b < w.heap.size ∧ A b := by
  rw [NodeAt_iff] at h
  obtain ⟨b', ty, ks, vs, h1, h2, h3, _⟩ := h
  cases h1
  exact ⟨hcell h3 4, (Array.getElem?_eq_some_iff.1 h3).1, h2⟩
/-- The kind of a node in memory. -/
theorem NodeAt.knd {A : Nat → Prop} {w : World} {b : Nat} {t : Tree} (h : NodeAt A w (.pointer (some ⟨b, 0, none⟩)) t) : w.cell? ⟨b, 0, none⟩ = some (.int .i64 t.kind) := by
  rw [NodeAt_iff] at h
  obtain ⟨b', ty, ks, vs, h1, h2, h3, _⟩ := h
  cases h1
  exact hcell h3 0

theorem Lst.lies {lo : Nat} {w : World} {v : Value} {vs : List Value} {ts : List Tree} (hl : Lst lo w v vs ts) (hpos : 0 < ts.length) :
    ∃ g cap, v = .slice (some ⟨g, 0, none⟩) vs.length cap ∧ (∀ j u, vs[j]? = some u → w.cell? ((⟨g, 0, none⟩ : Addr).add j) = some u) ∧ (∀ u ∈ vs, u.oneCell' = true) ∧ g < w.heap.size := by
  have hlen := hl.len
  rcases hl.row with ⟨rfl, rfl⟩ | ⟨g, cap, cur, rfl, hg, h3, h4, h5, h6, h7⟩
  · simp at hlen; omega
  · refine ⟨g, cap, rfl, ?_, ?_, (Array.getElem?_eq_some_iff.1 h3).1⟩
    · intro j u hu
      refine World.news_of_block h3 j u ?_
      have hj : j < vs.length := (List.getElem?_eq_some_iff.1 hu).1
      rw [← hu, ← h7, List.getElem?_take]
      simp [hj]
    · intro u hu
      obtain ⟨i, hi, rfl⟩ := List.getElem_of_mem hu
      have hk := hl.kids i (by omega)
      rw [NodeAt_iff] at hk
      obtain ⟨b', _, _, _, h1, _⟩ := hk
      have : vs[i] = .pointer (some ⟨b', 0, none⟩) := by simpa [List.getD, hi] using h1
      rw [this]
      rfl

/-- A node around one other. -/
theorem around_one {lo : Nat} {w : World} {k b : Nat} {t : Tree} (hlo : lo ≤ w.heap.size) (hf : NodeAt (fun j => lo ≤ j) w (.pointer (some ⟨b, 0, none⟩)) t) :
    Calls Tryz.prog 115 #[.int .i64 k, .pointer (some ⟨b, 0, none⟩), .slice none 0 0] w fun e w' => ∃ n ks, e = .returned (.pointer (some ⟨n, 0, none⟩)) ∧ w.heap.size ≤ n ∧ Und (fun j => lo ≤ j) w' n k noText noText 0 t.line [t] ks [.pointer (some ⟨b, 0, none⟩)] ∧ Add w w' :=
  (around_none hf.line.1 hf.line.2.1).mono fun _ _ h => h.und hlo hf rfl fun i h => absurd h (Nat.not_lt_zero i)

/-- A node around others: a first one, and those of a list. -/
theorem around_list {lo : Nat} {w : World} {k b : Nat} {t : Tree} {ts : List Tree} {v : Value} {vs : List Value} (hlo : lo ≤ w.heap.size) (hf : NodeAt (fun j => lo ≤ j) w (.pointer (some ⟨b, 0, none⟩)) t) (hl : Lst lo w v vs ts) (h0 : ts = [] → v = .slice none 0 0) (h9 : ts.length ≤ 8) :
    Calls Tryz.prog 115 #[.int .i64 k, .pointer (some ⟨b, 0, none⟩), v] w fun e w' => ∃ n ks, e = .returned (.pointer (some ⟨n, 0, none⟩)) ∧ w.heap.size ≤ n ∧ Und (fun j => lo ≤ j) w' n k noText noText 0 t.line (t :: ts) ks (.pointer (some ⟨b, 0, none⟩) :: vs) ∧ Add w w' := by
  have hlen := hl.len
  have hkid : ∀ (i : Nat) (h : i < ts.length), NodeAt (fun j => lo ≤ j) w (vs.getD i undef) ts[i] := fun i h => (hl.kids i h).mono fun _ h => h.1
  by_cases hz : ts = []
  · obtain rfl := h0 hz
    subst hz
    have hv0 : vs = [] := List.eq_nil_of_length_eq_zero hlen
    subst hv0
    exact (around_none hf.line.1 hf.line.2.1).mono fun _ _ h => h.und hlo hf hlen hkid
  · have hpos : 0 < ts.length := List.length_pos_iff.2 hz
    obtain ⟨g, cap, e1, hn, h1, hlt⟩ := hl.lies hpos
    rw [e1]
    exact (around_some hf.line.1 hf.line.2.1 (news := vs) rfl hn h1 (by omega) (by omega) hlt).mono fun _ _ h => h.und hlo hf hlen hkid

/-- A node around two others, the second of them in a block of its own. -/
theorem around_two {lo : Nat} {w : World} {k b a : Nat} {ty : TypeId} {x : Value} {t u : Tree} (hlo : lo ≤ w.heap.size) (hf : NodeAt (fun j => lo ≤ j) w (.pointer (some ⟨b, 0, none⟩)) t) (hu : NodeAt (fun j => lo ≤ j) w x u) (ha : w.heap[a]? = some (.cells #[x] ty (0, 0))) :
    Calls Tryz.prog 115 #[.int .i64 k, .pointer (some ⟨b, 0, none⟩), .slice (some ⟨a, 0, none⟩) 1 1] w fun e w' => ∃ n ks, e = .returned (.pointer (some ⟨n, 0, none⟩)) ∧ w.heap.size ≤ n ∧ Und (fun j => lo ≤ j) w' n k noText noText 0 t.line [t, u] ks [.pointer (some ⟨b, 0, none⟩), x] ∧ Add w w' := by
  refine (around_some hf.line.1 hf.line.2.1 (news := [x]) rfl (World.news_of_block ha) (fun v hv => ?_) (by simp) (by simp) (Array.getElem?_eq_some_iff.1 ha).1).mono fun _ _ h => h.und hlo hf rfl fun i hi => ?_
  · simp only [List.mem_singleton] at hv
    subst hv
    rw [NodeAt_iff] at hu
    obtain ⟨b', _, _, _, h1, _⟩ := hu
    subst h1
    rfl
  · have hi0 : i = 0 := by simpa using hi
    subst hi0
    exact hu

/-- KIDS MORE, those of a list: the row has grown by the law of append, and the node leads to it. -/
theorem Und.moreL {lo : Nat} {w w1 w' : World} {b k k' : Nat} {tx un : ByteArray} {n : Int} {ln : Nat} {ts : List Tree} {ks : Value} {vs : List Value} (h : Und (fun j => lo ≤ j) w b k tx un n ln ts ks vs)
    {xs : List Value} {us : List Tree} (hxl : xs.length = us.length) (hx : ∀ (i : Nat) (h : i < us.length), NodeAt (fun j => lo ≤ j ∧ j ≠ b ∧ some j ≠ ks.ownBlock) w (xs.getD i undef) us[i]) {g cap : Nat}
    (hown : w1.ownsRow 0 22 1 (.slice (some ⟨g, 0, none⟩) (vs.length + xs.length) cap) (vs.length + xs.length) (vs ++ xs))
    (hg : w.grownBy w1 ks.ownBlock) (hat : ks.ownBlock = some g ∨ g = w.heap.size) (hlo : lo ≤ w.heap.size)
    (hb' : ∃ t, w'.heap[b]? = some (.cells (ncells k' tx un n ln (.slice (some ⟨g, 0, none⟩) (vs.length + xs.length) cap)) t (0, 0))) (hoth : ∀ j, j ≠ b → w'.heap[j]? = w1.heap[j]?) :
    Und (fun j => lo ≤ j) w' b k' tx un n ln (ts ++ us) (.slice (some ⟨g, 0, none⟩) (vs.length + xs.length) cap) (vs ++ xs) := by
  obtain ⟨t0, hb⟩ := h.cells
  have hbl := (Array.getElem?_eq_some_iff.1 hb).1
  have hbk : some b ≠ ks.ownBlock := by
    rcases h.row with ⟨rfl, _⟩ | ⟨g', cap', cur, rfl, hg', _⟩
    · simp [Value.ownBlock]
    · intro e
      simp only [Value.ownBlock, Option.some.injEq] at e
      exact hg'.2 e.symm
  have hgb : g ≠ b := by
    rcases hat with e | e
    · intro e'; rw [e'] at e; exact hbk e.symm
    · omega
  have hglo : lo ≤ g := by
    rcases hat with e | e
    · rcases h.row with ⟨rfl, _⟩ | ⟨g', cap', cur, rfl, hg', _⟩
      · simp [Value.ownBlock] at e
      · simp only [Value.ownBlock, Option.some.injEq] at e
        rw [← e]; exact hg'.1
    · omega
  have keepK : ∀ (v : Value) (u : Tree), NodeAt (fun j => lo ≤ j ∧ j ≠ b ∧ some j ≠ ks.ownBlock) w v u → NodeAt (fun j => lo ≤ j ∧ j ≠ b ∧ some j ≠ some g) w' v u := fun v u hu =>
    (hu.lt u v).keep (fun j hj => ⟨hj.1.1, hj.1.2.1, fun e => by
      have e' : j = g := by simpa using e
      rcases hat with q | q
      · exact hj.1.2.2 (by rw [q, e'])
      · have := hj.2; omega⟩) (fun j hj hl => (hoth j hj.1.2.1).trans (hg.block j hl hj.1.2.2)) u v
  have hlen := h.len
  refine ⟨h.at', hb', ?_, by simp [h.len, hxl], ?_⟩
  · have hrow : Row (fun j => lo ≤ j ∧ j ≠ b) w1 (.slice (some ⟨g, 0, none⟩) (vs ++ xs).length cap) (vs ++ xs) := Row.of_owns (by simpa using hown) ⟨hglo, hgb⟩
    have := hrow.keep (A' := fun j => lo ≤ j ∧ j ≠ b) (w' := w') (fun _ h => h) (fun j hj _ => hoth j hj.2)
    simpa using this
  · intro i hi
    by_cases hi' : i < ts.length
    · have := keepK _ _ (h.kids i hi')
      have e1 : (vs ++ xs).getD i undef = vs.getD i undef := by simp [List.getD, List.getElem?_append_left (show i < vs.length by omega)]
      rw [e1, List.getElem_append_left hi']
      exact this
    · have hi2 : i - ts.length < us.length := by simp at hi; omega
      have := keepK _ _ (hx _ hi2)
      have e1 : (vs ++ xs).getD i undef = xs.getD (i - ts.length) undef := by simp [List.getD, List.getElem?_append_right (show vs.length ≤ i by omega), hlen]
      rw [e1, List.getElem_append_right (by omega)]
      exact this

/-- Behind an append of some, and behind the stores of a kind and of the list: the node has these kids more. -/
theorem kids_more {lo : Nat} {w0 w wa w6 : World} {r b k : Nat} (k' : Nat) {S : LS} {tx un : ByteArray} {n : Int} {ln : Nat} {ts : List Tree} {ks : Value} {vs : List Value} (hlo0 : lo = w0.heap.size) (hu : Und (fun j => lo ≤ j) w b k tx un n ln ts ks vs) (hua : Und (fun j => lo ≤ j) wa b k tx un n ln ts ks vs)
    (hr : r + 18 < lo) (cx : Cx wa r S) (hx0 : Ext r w0 wa) {xs : List Value} {us : List Tree} (hxl : xs.length = us.length) (hxs : ∀ (i : Nat) (h : i < us.length), NodeAt (fun j => w.heap.size ≤ j) wa (xs.getD i undef) us[i]) {g cap : Nat}
    (hown : w6.ownsRow 0 22 1 (.slice (some ⟨g, 0, none⟩) (vs.length + xs.length) cap) (vs.length + xs.length) (vs ++ xs))
    (hg : wa.grownBy w6 ks.ownBlock) (hat : ks.ownBlock = some g ∨ g = wa.heap.size) :
    w6.cell? ⟨b, 5, none⟩ = some ks ∧ w6.frozen? ⟨b, 5, none⟩ = false ∧ w6.cell? ⟨b, 0, none⟩ = some (.int .i64 k) ∧ w6.frozen? ⟨b, 0, none⟩ = false ∧
    Hid (Und (fun j => lo ≤ j) ((w6.setCell ⟨b, 0, none⟩ (.int .i64 k')).setCell ⟨b, 5, none⟩ (.slice (some ⟨g, 0, none⟩) (vs.length + xs.length) cap)) b k' tx un n ln (ts ++ us) (.slice (some ⟨g, 0, none⟩) (vs.length + xs.length) cap) (vs ++ xs)) ∧
    Hid (Ext r w0 ((w6.setCell ⟨b, 0, none⟩ (.int .i64 k')).setCell ⟨b, 5, none⟩ (.slice (some ⟨g, 0, none⟩) (vs.length + xs.length) cap))) ∧ Hid (Cx ((w6.setCell ⟨b, 0, none⟩ (.int .i64 k')).setCell ⟨b, 5, none⟩ (.slice (some ⟨g, 0, none⟩) (vs.length + xs.length) cap)) r S) := by
  obtain ⟨t0, hb⟩ := hu.cells
  obtain ⟨t2, hb2⟩ := hua.cells
  have hbw := (Array.getElem?_eq_some_iff.1 hb).1
  have hb2w := (Array.getElem?_eq_some_iff.1 hb2).1
  have hblo : lo ≤ b := hu.at'
  have hkw : ∀ j, ks.ownBlock = some j → j < w.heap.size ∧ lo ≤ j ∧ j ≠ b := by
    intro j hj
    rcases hu.row with ⟨rfl, _⟩ | ⟨g', cap', cur, rfl, hg', h3, _⟩
    · simp [Value.ownBlock] at hj
    · simp only [Value.ownBlock, Option.some.injEq] at hj
      subst hj
      exact ⟨(Array.getElem?_eq_some_iff.1 h3).1, hg'.1, hg'.2⟩
  have hbk : some b ≠ ks.ownBlock := fun e => (hkw b e.symm).2.2 rfl
  have hsz : lo ≤ wa.heap.size := by rw [hlo0]; exact hx0.size
  have hrk : some r ≠ ks.ownBlock := fun e => by have := (hkw r e.symm).2.1; omega
  have hb3 : w6.heap[b]? = some (.cells (ncells k tx un n ln ks) t2 (0, 0)) := (hg.block b hb2w hbk).trans hb2
  have hrx : r < wa.heap.size := cx.rd.lt
  have hx3 : Ext r w0 w6 := ext_grown hx0 hg fun j hj => by have := (hkw j hj).2.1; omega
  have hx3' : Ext r w0 ((w6.setCell ⟨b, 0, none⟩ (.int .i64 k')).setCell ⟨b, 5, none⟩ (.slice (some ⟨g, 0, none⟩) (vs.length + xs.length) cap)) := (hx3.setNew ⟨b, 0, none⟩ (by show w0.heap.size ≤ b; omega) _).setNew ⟨b, 5, none⟩ (by show w0.heap.size ≤ b; omega) _
  have hcx3 : Cx w6 r S := by
    have far := cx.tabs.far
    have hjc := cx.jc.keep (w' := w6) fun j _ h2 h3 => hg.block j h3 fun e => by have := (hkw j e.symm).2.1; omega
    have hjn := cx.jn
    have ht := cx.tabs.keep (w' := w6) fun j h1 h2 => hg.block j h2 fun e => by have := (hkw j e.symm).2.1; omega
    obtain ⟨⟨t, hr1⟩, ok, _, _, _⟩ := cx
    exact ⟨⟨t, (hg.block r hrx hrk).trans hr1⟩, ok, ht, hjc, hjn⟩
  refine ⟨hcell hb3 5, hfroz hb3 5, hcell hb3 0, hfroz hb3 0, ?_, hx3', (hcx3.setCell (by omega) _ _).setCell (by omega) _ _⟩
  refine hua.moreL hxl (fun i h => ?_) hown hg hat hsz ⟨t2, by rw [hset (hset hb3 _) _]; rfl⟩ fun j hj => (hother _ hj).trans (hother _ hj)
  refine (hxs i h).mono fun j hj => ⟨by omega, by omega, fun e => ?_⟩
  have := (hkw j e.symm).1
  omega
end Go.Proofs.YtndgajlidckcdaaGreatDoor

namespace Go.Proofs.YtndgajlidckcdaaGreatDoor
open Go.RowKit

/-- How many parts a tree has. -/
def Tree.many : Tree → Nat
  | ⟨_, _, _, _, _, kids⟩ => 1 + (kids.attach.map fun ⟨k, _⟩ => k.many).sum
theorem many_eq (t : Tree) : t.many = 1 + (t.kids.map Tree.many).sum := by
  obtain ⟨a, b, c, d, e, kids⟩ := t
  rw [Tree.many]
  simp

/-- The cells of a list of kids. -/
theorem Row.cellAt {A : Nat → Prop} {w : World} {ks : Value} {vs : List Value} (h : Row A w ks vs) : (ks = .slice none 0 0 ∧ vs = []) ∨ ∃ g cap, ks = .slice (some ⟨g, 0, none⟩) vs.length cap ∧ vs.length ≤ maxLen ∧ ∀ i, i < vs.length → w.cell? ⟨g, i, none⟩ = some (vs.getD i undef) := by
  rcases h with h | ⟨g, cap, cur, h1, _, h3, h4, h5, h6, h7⟩
  · exact Or.inl h
  · refine Or.inr ⟨g, cap, h1, by omega, fun i hi => ?_⟩
    rw [hcell h3 i, ← Array.getElem?_toList, List.getD]
    have e : vs[i]? = (cur.toList.take vs.length)[i]? := by rw [h7]
    rw [e, List.getElem?_take, if_pos hi]
    have hlt : i < cur.toList.length := by simp; omega
    rw [List.getElem?_eq_getElem hlt]
    rfl

theorem wrap_add (a b : Int) : wrap64 (wrap64 a + wrap64 b) = wrap64 (a + b) := by
  unfold wrap64
  omega

theorem sum_take (l : List Tree) {k : Nat} (h : k < l.length) : ((l.take (k + 1)).map Tree.many).sum = ((l.take k).map Tree.many).sum + l[k].many := by
  rw [List.take_succ_eq_append_getElem h, List.map_append, List.sum_append]
  simp only [List.map_cons, List.map_nil, List.sum_cons, List.sum_nil]
  omega

set_option maxRecDepth 100000 in
set_option maxHeartbeats 4000000 in
theorem many_any {A : Nat → Prop} {w : World} : ∀ (t : Tree) (v : Value), NodeAt A w v t → Calls Tryz.prog 13 #[v] w fun e w' => e = .returned (.int .i64 (wrap64 (t.many : Int))) ∧ w' = w := by
  refine tree_ind _ fun t ih v h => ?_
  rw [NodeAt_iff] at h
  obtain ⟨b, ty, ks, vs, rfl, _, h3, h4, h5, h6⟩ := h
  have c5 : w.cell? ⟨b, 5, none⟩ = some ks := hcell h3 5
  have IH : Hid (∀ i (hi : i < t.kids.length), Calls Tryz.prog 13 #[vs.getD i undef] w fun e w' => e = .returned (.int .i64 (wrap64 (t.kids[i].many : Int))) ∧ w' = w) := fun i hi => ih _ (List.getElem_mem hi) _ (h6 i hi)
  clear ih h3 h6
  have HM := hide (many_eq t)
  rcases h4.cellAt with ⟨rfl, rfl⟩ | ⟨g, cap, rfl, hmax, hcells⟩
  · clear h4
    have HK := hide (show t.kids = [] from List.eq_nil_of_length_eq_zero (by rw [← h5]; rfl))
    clear h5 IH
    go_enter Tryz.func13, Tryz.ntmps13
    go_wp2_with fail
    go_loopg [3, 13] 1 (fun gg m i wr => gg = 1 ∧ m = .int .i64 1 ∧ i = .int .i64 0 ∧ wr = w)
    case atStart => exact ⟨rfl, rfl, rfl, rfl⟩
    case round =>
      obtain ⟨rfl, rfl, rfl, rfl⟩ := hrel
      go_wp2_with fail
      go_ret
      rw [show wrap64 (t.many : Int) = 1 by rw [unhide HM, unhide HK]; simp [wrap64]]
      exact ⟨rfl, rfl⟩
  · clear h4
    obtain ⟨N, hN⟩ : ∃ N, vs.length = N := ⟨_, rfl⟩
    rw [hN] at hmax hcells c5 h5
    unfold maxLen at hmax
    have HCS := hide hcells
    clear hcells
    go_enter Tryz.func13, Tryz.ntmps13
    go_wp2_with fail
    go_loopg [3, 13] N (fun gg m i wr => ∃ (k : Nat) (M : Int), k ≤ N ∧ gg = N - k ∧ i = .int .i64 k ∧ m = .int .i64 M ∧ Hid (M = wrap64 ((1 + ((t.kids.take k).map Tree.many).sum : Nat) : Int)) ∧ wr = w)
    case atStart => exact ⟨0, 1, Nat.zero_le _, rfl, rfl, rfl, by show (1 : Int) = wrap64 ((1 + ((t.kids.take 0).map Tree.many).sum : Nat) : Int); rw [List.take_zero]; simp [wrap64], rfl⟩
    case round =>
      obtain ⟨k, M, hk, rfl, rfl, rfl, HW, rfl⟩ := hrel
      by_cases hlt : k < N
      · have hc := unhide HCS k hlt
        have hlt2 : (k : Int) < (N : Int) := by omega
        obtain ⟨K, hK⟩ : ∃ K : Int, K = wrap64 (t.kids[k].many : Int) := ⟨_, rfl⟩
        have hi := unhide IH k (by omega)
        rw [← hK] at hi
        have HI := hide hi
        have HT : Hid (wrap64 (M + K) = wrap64 ((1 + ((t.kids.take (k + 1)).map Tree.many).sum : Nat) : Int)) := by
          show wrap64 (M + K) = _
          rw [unhide HW, hK, wrap_add, sum_take t.kids (show k < t.kids.length by omega)]
          congr 1
          omega
        clear hi hK IH HW
        generalize vs.getD k undef = kv at *
        go_wp2_with fail
        refine (unhide HI).mono ?_
        rintro e wz ⟨rfl, rfl⟩
        go_wp2_with fail
        go_roundg (N - (k + 1))
        case measure => omega
        case rel => exact ⟨k + 1, _, by omega, rfl, by go_num, rfl, unhide HT, rfl⟩
      · obtain rfl : k = N := by omega
        have hf : decide ((k : Int) < (k : Int)) = false := by simp
        have HT := hide (show M = wrap64 (t.many : Int) by rw [unhide HW, unhide HM, List.take_of_length_le (by omega)])
        clear HW IH
        go_wp2_with fail
        go_ret
        rw [← unhide HT]
        exact ⟨rfl, rfl⟩

set_option maxRecDepth 100000 in
set_option maxHeartbeats 4000000 in
theorem caught_any (w : World) (e p : Int) :
    Calls Tryz.prog 42 #[.iface 120 (.agg #[.int .i64 e, .int .i64 p])] w fun en w' =>
      en = .returned (.iface 122 (.pointer (some ⟨w.heap.size + 1, 0, none⟩))) ∧ w' = (w.alloc (.cells #[.int .i64 e, .int .i64 p] 120)).alloc (.cells #[.int .i64 e, .int .i64 p] 123) := by
  have hta : ∀ w : World, (Instr.typeAssert (.iface 120 (.agg #[.int .i64 e, .int .i64 p])) 20 120 true).run Tryz.prog w = .ok (.tuple #[.agg #[.int .i64 e, .int .i64 p], .bool true]) w := fun _ => by kernel_rfl
  go_enter Tryz.func42, Tryz.ntmps42
  go_wp2_with fail
  go_ret
  exact ⟨rfl, rfl⟩
end Go.Proofs.YtndgajlidckcdaaGreatDoor
