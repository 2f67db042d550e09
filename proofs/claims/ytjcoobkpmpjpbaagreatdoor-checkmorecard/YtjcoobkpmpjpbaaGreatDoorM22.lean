/-
  A row of nodes is gone through.
  The numbers of classes by their names, in a map.
  Classes and functions ahead of what is within them: heads in memory, and the class above one.
  Is what a class is under there, and does the way up end?
-/
import Derived.Test.YtjcoobkpmpjpbaaGreatDoorM21
namespace Go.Proofs.YtjcoobkpmpjpbaaGreatDoor
open Go.RowKit Go.Maps

/-- A row of nodes, that may begin within a block. -/
def ListO (M : Nat) (w : World) (v : Value) (l : List Tree) : Prop := ∃ g cap, v = .slice g l.length cap ∧ l.length ≤ maxLen ∧ ∀ (i : Nat) (t : Tree), l[i]? = some t → ∃ a o b, g = some ⟨a, o, none⟩ ∧ a < M ∧ w.cell? ⟨a, o + i, none⟩ = some (.pointer (some ⟨b, 0, none⟩)) ∧ NodeAt (fun k => k < M) w (.pointer (some ⟨b, 0, none⟩)) t
theorem ListO.keep {M : Nat} {w w' : World} {v : Value} {l : List Tree} (h : ListO M w v l) (hk : ∀ k, k < M → w'.heap[k]? = w.heap[k]?) : ListO M w' v l := by
  obtain ⟨g, cap, h1, h2, h3⟩ := h
  refine ⟨g, cap, h1, h2, fun i t ht => ?_⟩
  obtain ⟨a, o, b, e, ha, hc, hn⟩ := h3 i t ht
  exact ⟨a, o, b, e, ha, (World.cell?_of_block (hk a ha)).trans hc, node_keep hn hk⟩
theorem ListAt.o {M : Nat} {w : World} {v : Value} {l : List Tree} (h : ListAt M w v l) : ListO M w v l := by
  obtain ⟨g, cap, h1, h2, h3⟩ := h
  refine ⟨g, cap, h1, h2, fun i t ht => ?_⟩
  obtain ⟨a, b, e, ha, hc, hn⟩ := h3 i t ht
  exact ⟨a, 0, b, e, ha, by rw [Nat.zero_add]; exact hc, hn⟩
theorem listo_grown {M : Nat} {w w' : World} {b : Nat} {v : Value} {l : List Tree} (h : ListO M w v l) (hg : w.grownBy w' (some b)) (hM : M ≤ w.heap.size) (hb : M ≤ b) : ListO M w' v l := h.keep fun k hk => hg.block k (Nat.lt_of_lt_of_le hk hM) (fun e => by have := Option.some.inj e; omega)
theorem manyL_drop {l : List Tree} {i : Nat} {t : Tree} (h : l[i]? = some t) : manyL (l.drop i) = t.many + manyL (l.drop (i + 1)) := by
  rw [drop_cons h]
  simp [manyL]
def boxC (tp sp : Nat) (cv : Int) (fn : Bool) : Array Value := #[.pointer (some ⟨tp, 0, none⟩), .pointer (some ⟨sp, 0, none⟩), .int .i64 cv, .bool fn]
theorem box_cells {w : World} {k tp sp : Nat} {cv : Int} {fn : Bool} (h : w.heap[k]? = some (.cells #[.pointer (some ⟨tp, 0, none⟩), .pointer (some ⟨sp, 0, none⟩), .int .i64 cv, .bool fn] 49 (0, 0))) : w.cell? ⟨k, 0, none⟩ = some (.pointer (some ⟨tp, 0, none⟩)) ∧ w.cell? ⟨k, 1, none⟩ = some (.pointer (some ⟨sp, 0, none⟩)) ∧ w.cell? ⟨k, 2, none⟩ = some (.int .i64 cv) ∧ w.cell? ⟨k, 3, none⟩ = some (.bool fn) := ⟨hcell h 0, hcell h 1, hcell h 2, hcell h 3⟩

set_option maxRecDepth 100000 in
set_option maxHeartbeats 4000000 in
theorem all_o {M : Nat} {tp : Nat} {T : Tab} {vc vf : Value} {f : Nat} {cls : Option Nat} {fn : Bool} (HN : Hid (NodeOk M tp T vc vf f cls fn)) {w : World} {sp b N : Nat} {env : List (List ByteArray)} (h : PlA M w tp sp b N T vc vf env) {v : Value} {l : List Tree} (hl : ListO M w v l) (hlow : ∀ t ∈ l, Lowt f t ∧ Wf t) (hn : ownN env + manyL l ≤ 1000000) :
    Calls Tryz.prog 15 #[plV tp sp cls fn, v] w fun e w' => NdPost w sp b N (manyL l) env (allP (nodeP T f cls fn) env l) e w' := by
  have HL := hide hl
  obtain ⟨g, cap, rfl, hmax, _⟩ := hl
  obtain ⟨L, hL⟩ : ∃ L, l.length = L := ⟨_, rfl⟩
  have HLEN := hide hL
  rw [hL] at HL hmax ⊢
  unfold maxLen at hmax
  have HLOW := hide hlow
  have HBD := hide hn
  have H := hide h
  have hlt := h.lt
  have HLT := hide hlt
  have hb1 := fun o => (Below.refl w.heap.size w).alloc (Nat.le_refl _) o
  have HB1 := hide hb1
  unfold plV
  have HCV := hide (rfl : clsV cls = clsV cls)
  generalize hcv : clsV cls = cv at HCV ⊢
  have HCV2 := hide hcv
  clear h hlow hn hL hb1 hlt hcv HCV
  go_enter Tryz.func15, Tryz.ntmps15
  go_wp2_with fail
  go_loopg [10] L (fun gg iv wr => ∃ (i : Nat) (envi : List (List ByteArray)), i ≤ L ∧ gg = L - i ∧ iv = .int .i64 i ∧ Hid (w.grownBy wr (some b)) ∧ Hid (PlA M wr tp sp b N T vc vf envi) ∧ Hid (allP (nodeP T f cls fn) env l = allP (nodeP T f cls fn) envi (l.drop i)) ∧ Hid (ownN envi + manyL (l.drop i) ≤ ownN env + manyL l) ∧ Hid (wr.heap[w.heap.size]? = some (.cells #[.pointer (some ⟨tp, 0, none⟩), .pointer (some ⟨sp, 0, none⟩), .int .i64 cv, .bool fn] 49 (0, 0))))
  case atStart => exact ⟨0, env, Nat.zero_le _, rfl, rfl, grown_of_below (unhide HB1 _), (unhide H).keep (unhide HB1 _), rfl, Nat.le_refl _, hnew w _⟩
  case round =>
    obtain ⟨i, envi, hi, rfl, rfl, HG, HP, HA, HS, HX⟩ := hrel
    by_cases hlt2 : i < L
    · have hlt3 : (i : Int) < (L : Int) := by omega
      obtain ⟨t, ht⟩ : ∃ t, l[i]? = some t := ⟨_, List.getElem?_eq_getElem (by have := unhide HLEN; omega)⟩
      have hli := listo_grown (show ListO M w (.slice g l.length cap) l by rw [unhide HLEN]; exact unhide HL) (unhide HG) (unhide H).hM (unhide H).hb
      obtain ⟨g', cap', e1, _, hat⟩ := hli
      cases e1
      obtain ⟨a, oo, bn, rfl, ha, hc, hnd⟩ := hat i t ht
      obtain ⟨z0, z1, z2, z3⟩ := box_cells (unhide HX)
      have HND := hide hnd
      have HT := hide ht
      clear hnd ht hat
      go_wp2_with fail
      have hmem := List.mem_of_getElem? (unhide HT)
      have hmd := manyL_drop (unhide HT)
      have hbound : ownN envi + t.many ≤ 1000000 := by have := unhide HS; have := unhide HBD; omega
      have hc0 := unhide HN wr sp b N envi bn t (unhide HP) (unhide HND) (unhide HLOW t hmem).1 (unhide HLOW t hmem).2 hbound
      unfold plV at hc0
      rw [unhide HCV2] at hc0
      refine hc0.mono ?_
      clear hc0
      rintro e w2 ⟨hg2, env2, hs2, hle2, hor⟩
      have HG2 := hide ((unhide HG).trans hg2)
      have HP2 := hide ((unhide HP).grown hg2 hs2)
      have HX2 := hide ((hg2.block _ (Array.getElem?_eq_some_iff.1 (unhide HX)).1 (fun e => by have := Option.some.inj e; have := unhide HLT; omega)).trans (unhide HX))
      have HS2 := hide (show ownN env2 + manyL (l.drop (i + 1)) ≤ ownN env + manyL l by have := unhide HS; omega)
      have hdc := drop_cons (unhide HT)
      clear hmd hbound hg2 hmem hle2 hs2
      rcases hor with ⟨hr, rfl⟩ | ⟨hr, tt, pp, rfl⟩
      · have HA2 := hide (show allP (nodeP T f cls fn) env l = allP (nodeP T f cls fn) env2 (l.drop (i + 1)) by rw [unhide HA, hdc, allP, hr])
        clear hdc hr
        go_wp2_with fail
        go_roundg (L - (i + 1))
        case measure => omega
        case rel => exact ⟨i + 1, env2, by omega, rfl, by go_num, HG2, HP2, HA2, HS2, HX2⟩
      · have HA2 := hide (show allP (nodeP T f cls fn) env l = none by rw [unhide HA, hdc, allP, hr])
        clear hdc hr
        go_wp2_with fail
        go_ret
        exact ⟨unhide HG2, env2, (unhide HP2).scope, by have := unhide HS2; omega, Or.inr ⟨unhide HA2, _, _, rfl⟩⟩
    · obtain rfl : i = L := by omega
      have hlt3 : decide ((i : Int) < (i : Int)) = false := by simp
      go_wp2_with fail
      go_ret
      have hd : l.drop i = [] := List.drop_eq_nil_of_le (by have := unhide HLEN; omega)
      have hA := unhide HA
      rw [hd] at hA
      exact ⟨unhide HG, envi, (unhide HP).scope, by have := unhide HS; omega, Or.inl ⟨hA, rfl⟩⟩
theorem all_any {M : Nat} {tp : Nat} {T : Tab} {vc vf : Value} {f : Nat} {cls : Option Nat} {fn : Bool} (HN : Hid (NodeOk M tp T vc vf f cls fn)) {w : World} {sp b N : Nat} {env : List (List ByteArray)} (h : PlA M w tp sp b N T vc vf env) {v : Value} {l : List Tree} (hl : ListAt M w v l) (hlow : ∀ t ∈ l, Lowt f t ∧ Wf t) (hn : ownN env + manyL l ≤ 1000000) :
    Calls Tryz.prog 15 #[plV tp sp cls fn, v] w fun e w' => NdPost w sp b N (manyL l) env (allP (nodeP T f cls fn) env l) e w' := all_o HN h hl.o hlow hn
end Go.Proofs.YtjcoobkpmpjpbaaGreatDoor

namespace Go.Proofs.YtjcoobkpmpjpbaaGreatDoor
open Go.RowKit Go.Maps

theorem zeroIntK (w : World) : (zeroValue 3).run Tryz.prog w = .ok (.int .i64 0) w := by kernel_rfl
theorem wfK {k : Nat} (h : k ≤ 1000000) : (Lit.int .i64 (k : Int)).wf = true := WalkArith.wf_i64 (by omega)
/-- Of each name the number of the last class of it. -/
def NumAt (w : World) (b : Nat) (cs : List Tree) : Prop := ∃ D : DataW Unit, w.ownsMap Tryz.prog 9 (plainElem Tryz.prog 3) b cs.length D ∧ (∀ s k, numF cs s = some k → Maps.has D (sl s) = true ∧ D.atKey (sl s) (.lit (.int .i64 0)) = .lit (.int .i64 (k : Int))) ∧ ∀ s, numF cs s = none → Maps.has D (sl s) = false ∧ D.atKey (sl s) (.lit (.int .i64 0)) = .lit (.int .i64 0)
theorem NumAt.keep {w w' : World} {b : Nat} {cs : List Tree} (h : NumAt w b cs) (hb : w'.heap[b]? = w.heap[b]?) : NumAt w' b cs := by
  obtain ⟨D, ⟨es, clock, h1, h2⟩, h3⟩ := h
  exact ⟨D, ⟨es, clock, hb.trans h1, h2⟩, h3⟩
theorem NumAt.lt {w : World} {b : Nat} {cs : List Tree} (h : NumAt w b cs) : b < w.heap.size := by
  obtain ⟨D, h1, _⟩ := h
  exact h1.lt
def numV (o : Option Nat) : Int := match o with
  | some k => k
  | none => 0
theorem NumAt.look {w : World} {b : Nat} {cs : List Tree} (h : NumAt w b cs) {s : ByteArray} (hs : s.size ≤ 300) :
    (Go.Instr.lookup 62 (.map (some b)) (.string s) true).run Tryz.prog w = .ok (.tuple #[.int .i64 (numV (numF cs s)), .bool (numF cs s).isSome]) w := by
  obtain ⟨D, h1, h2, h3⟩ := h
  obtain ⟨v, ps, hrun, hv⟩ := h1.look_ok keyStr Tryz.underlying62 (zeroIntK w) (plainElem_int Tryz.underlying3 (by decide)) (sl_key hs)
  obtain ⟨c, rfl, hc, hwc⟩ := plainElem_int_inv Tryz.underlying3 hv
  simp only [Prod.mk.injEq] at hc
  cases hk : numF cs s with
  | some k =>
    obtain ⟨e1, e2⟩ := h2 s k hk
    have : (c : Int) = k := by
      have := hc.1.symm.trans e2
      simpa only [DataW.lit.injEq, Lit.int.injEq, true_and] using this
    rw [hrun, e1, this]
    rfl
  | none =>
    obtain ⟨e1, e2⟩ := h3 s hk
    have : (c : Int) = 0 := by
      have := hc.1.symm.trans e2
      simpa only [DataW.lit.injEq, Lit.int.injEq, true_and] using this
    rw [hrun, e1, this]
    rfl
theorem NumAt.put {w : World} {b : Nat} {cs : List Tree} (h : NumAt w b cs) {c : Tree} (hc : c.text.size ≤ 300) (hn : cs.length ≤ 1000000) :
    ∃ w', (Go.Instr.mapUpdate 62 (.map (some b)) (.string c.text) (.int .i64 (cs.length : Int))).run Tryz.prog w = .ok () w' ∧ NumAt w' b (cs ++ [c]) ∧ w.grownBy w' (some b) := by
  obtain ⟨D, h1, h2, h3⟩ := h
  have hm : Maps.IsMap D := by
    obtain ⟨_, _, _, _, _, e⟩ := h1
    exact ⟨_, e⟩
  obtain ⟨w', hrun, hown, hg⟩ := h1.update keyStr Tryz.underlying62 (by unfold maxLen; omega) (sl_key hc) (plainElem_int Tryz.underlying3 (wfK hn))
  refine ⟨w', hrun, ⟨_, by rw [List.length_append]; exact hown, fun s k hk => ?_, fun s hk => ?_⟩, hg⟩
  · rw [numF_snoc] at hk
    by_cases e : c.text = s
    · rw [if_pos e] at hk
      cases hk
      subst e
      exact ⟨Maps.has_put_same hm (sl_lit _) _, Maps.atKey_put_same hm (sl_lit _) _ _⟩
    · rw [if_neg e] at hk
      rw [Maps.has_put_other (sl_ne (fun q => e q.symm)), Maps.atKey_put_other (sl_ne (fun q => e q.symm))]
      exact h2 s k hk
  · rw [numF_snoc] at hk
    by_cases e : c.text = s
    · rw [if_pos e] at hk
      cases hk
    · rw [if_neg e] at hk
      rw [Maps.has_put_other (sl_ne (fun q => e q.symm)), Maps.atKey_put_other (sl_ne (fun q => e q.symm))]
      exact h3 s hk
theorem NumAt.made (w : World) : NumAt (w.alloc (.map #[] 0)) w.heap.size [] :=
  ⟨_, World.ownsMap_made w _ _ _, fun s k h => (by cases h), fun s _ => ⟨rfl, rfl⟩⟩
end Go.Proofs.YtjcoobkpmpjpbaaGreatDoor

namespace Go.Proofs.YtjcoobkpmpjpbaaGreatDoor
open Go.RowKit Go.Maps
set_option linter.unusedSimpArgs false

/-- Heads; all of it lies below M. -/
structure HdAt (M : Nat) (w : World) (hp nb : Nat) (vcl vfn : Value) (cs fns : List Tree) : Prop where
  lt : hp < M
  nlt : nb < M
  blk : w.heap[hp]? = some (.cells #[vcl, vfn, .map (some nb)] 64 (0, 0))
  cls : ListAt M w vcl cs
  fns : ListAt M w vfn fns
  num : NumAt w nb cs
theorem HdAt.keep {M : Nat} {w w' : World} {hp nb : Nat} {vcl vfn : Value} {cs fns : List Tree} (h : HdAt M w hp nb vcl vfn cs fns) (hk : ∀ k, k < M → w'.heap[k]? = w.heap[k]?) : HdAt M w' hp nb vcl vfn cs fns :=
  ⟨h.lt, h.nlt, (hk hp h.lt).trans h.blk, h.cls.keep hk, h.fns.keep hk, h.num.keep (hk nb h.nlt)⟩

set_option maxRecDepth 100000 in
set_option maxHeartbeats 8000000 in
/-- The number of the class that one is under. -/
theorem above_any {M : Nat} {w : World} {hp nb : Nat} {vcl vfn : Value} {cs fns : List Tree} (h : HdAt M w hp nb vcl vfn cs fns) {i : Nat} {c : Tree} (hc : cs[i]? = some c) (hu : c.under.size ≤ 300) :
    Calls Tryz.prog 28 #[.pointer (some ⟨hp, 0, none⟩), .int .i64 (i : Int)] w fun e w' => e = .returned (.int .i64 (clsV (numF cs c.under))) ∧ Below w.heap.size w w' := by
  have b0 : w.cell? ⟨hp, 0, none⟩ = some vcl := hcell h.blk 0
  have b2 : w.cell? ⟨hp, 2, none⟩ = some (.map (some nb)) := hcell h.blk 2
  obtain ⟨g, cap, rfl, hmax, hat⟩ := h.cls
  obtain ⟨a, bc, rfl, ha, k0, hn⟩ := hat i c hc
  obtain ⟨ks, hv⟩ := node_view hn
  have e2 := hv.c2
  have hi := (List.getElem?_eq_some_iff.1 hc).1
  obtain ⟨L, hL⟩ : ∃ L, cs.length = L := ⟨_, rfl⟩
  rw [hL] at b0 hmax hi
  unfold maxLen at hmax
  have hi2 : (i : Int) < (L : Int) := by omega
  have lk := h.num.look hu
  have HNU := hide h.num
  have HLK := hide (fun (X : World) (hX : X.heap[nb]? = w.heap[nb]?) => ((unhide HNU).keep hX).look hu)
  cases hf : numF cs c.under with
  | some k =>
    rw [hf] at lk
    have HL2 : Hid (∀ X : World, X.heap[nb]? = w.heap[nb]? → (Go.Instr.lookup 62 (.map (some nb)) (.string c.under) true).run Tryz.prog X = .ok (.tuple #[.int .i64 (k : Int), .bool true]) X) := fun X hX => by
      have := unhide HLK X hX
      rw [hf] at this
      exact this
    clear h hat hn hv hc hL lk hf
    go_enter Tryz.func28, Tryz.ntmps28
    go_wp2_with fail
    refine wp_region_held_drew (S := fun w' => w'.cell? ⟨hp, 2, none⟩ = some (.map (some nb)) ∧ w'.cell? ⟨hp, 0, none⟩ = some (.slice (some ⟨a, 0, none⟩) L cap) ∧ w'.cell? ⟨a, i, none⟩ = some (.pointer (some ⟨bc, 0, none⟩)) ∧ w'.cell? ⟨bc, 2, none⟩ = some (.string c.under) ∧ (Go.Instr.lookup 62 (.map (some nb)) (.string c.under) true).run Tryz.prog w' = .ok (.tuple #[.int .i64 (k : Int), .bool true]) w') (by kernel_rfl) ⟨b2, b0, k0, e2, unhide HL2 _ rfl⟩ (fun hHeld => ?_)
    refine wpAnyH_take (i := 0) (oi := { dst := some 8, op := _, type := _, pos := _, after := _, guard := _ }) (v := ?_) rfl (by kernel_rfl) (by kernel_rfl) (by kernel_rfl) (fun _ _ _ h => h) (Or.inl ⟨by rfl, ?_⟩) (by assumption) ?_
    case refine_2 =>
      intro w hSw
      try dsimp only at hSw
      go_simp
      try with_reducible rfl
    simp only [Act.put, List.setIfInBounds_toArray, List.set_cons_zero, List.set_cons_succ]
    refine wpAnyH_take (i := 1) (oi := { dst := some 9, op := _, type := _, pos := _, after := _, guard := _ }) (v := ?_) rfl (by kernel_rfl) (by kernel_rfl) (by kernel_rfl) (fun _ _ _ h => h) (Or.inl ⟨by rfl, ?_⟩) (by assumption) ?_
    case refine_2 =>
      intro w hSw
      try dsimp only at hSw
      go_simp
      try with_reducible rfl
    simp only [Act.put, List.setIfInBounds_toArray, List.set_cons_zero, List.set_cons_succ]
    refine wpAnyH_take (i := 2) (oi := { dst := some 10, op := _, type := _, pos := _, after := _, guard := _ }) (v := ?_) rfl (by kernel_rfl) (by kernel_rfl) (by kernel_rfl) (fun _ _ _ h => h) (Or.inl ⟨by rfl, ?_⟩) (by assumption) ?_
    case refine_2 =>
      intro w hSw
      try dsimp only at hSw
      go_simp
      try with_reducible rfl
    simp only [Act.put, List.setIfInBounds_toArray, List.set_cons_zero, List.set_cons_succ]
    refine wpAnyH_take (i := 3) (oi := { dst := some 11, op := _, type := _, pos := _, after := _, guard := _ }) (v := ?_) rfl (by kernel_rfl) (by kernel_rfl) (by kernel_rfl) (fun _ _ _ h => h) (Or.inl ⟨by rfl, ?_⟩) (by assumption) ?_
    case refine_2 =>
      intro w hSw
      try dsimp only at hSw
      go_simp
      try with_reducible rfl
    simp only [Act.put, List.setIfInBounds_toArray, List.set_cons_zero, List.set_cons_succ]
    refine wpAnyH_take (i := 4) (oi := { dst := some 12, op := _, type := _, pos := _, after := _, guard := _ }) (v := ?_) rfl (by kernel_rfl) (by kernel_rfl) (by kernel_rfl) (fun _ _ _ h => h) (Or.inl ⟨by rfl, ?_⟩) (by assumption) ?_
    case refine_2 =>
      intro w hSw
      try dsimp only at hSw
      go_simp
      try with_reducible rfl
    simp only [Act.put, List.setIfInBounds_toArray, List.set_cons_zero, List.set_cons_succ]
    refine wpAnyH_take (i := 5) (oi := { dst := some 13, op := _, type := _, pos := _, after := _, guard := _ }) (v := ?_) rfl (by kernel_rfl) (by kernel_rfl) (by kernel_rfl) (fun _ _ _ h => h) (Or.inl ⟨by rfl, ?_⟩) (by assumption) ?_
    case refine_2 =>
      intro w hSw
      try dsimp only at hSw
      go_simp
      try with_reducible rfl
    simp only [Act.put, List.setIfInBounds_toArray, List.set_cons_zero, List.set_cons_succ]
    refine wpAnyH_take (i := 6) (oi := { dst := some 14, op := _, type := _, pos := _, after := _, guard := _ }) (v := ?_) rfl (by kernel_rfl) (by kernel_rfl) (by kernel_rfl) (fun _ _ _ h => h) (Or.inl ⟨by rfl, ?_⟩) (by assumption) ?_
    case refine_2 =>
      intro w hSw
      try dsimp only at hSw
      go_simp
      try with_reducible rfl
    simp only [Act.put, List.setIfInBounds_toArray, List.set_cons_zero, List.set_cons_succ]
    refine wpAnyH_take (i := 7) (oi := { dst := some 15, op := _, type := _, pos := _, after := _, guard := _ }) (v := ?_) rfl (by kernel_rfl) (by kernel_rfl) (by kernel_rfl) (fun _ _ _ h => h) (Or.inl ⟨by rfl, ?_⟩) (by assumption) ?_
    case refine_2 =>
      intro w hSw
      try dsimp only at hSw
      go_simp
      try with_reducible rfl
    simp only [Act.put, List.setIfInBounds_toArray, List.set_cons_zero, List.set_cons_succ]
    refine wpAnyH_take (i := 8) (oi := { dst := some 16, op := _, type := _, pos := _, after := _, guard := _ }) (v := ?_) rfl (by kernel_rfl) (by kernel_rfl) (by kernel_rfl) (fun _ _ _ h => h) (Or.inl ⟨by rfl, ?_⟩) (by assumption) ?_
    case refine_2 =>
      intro w hSw
      try dsimp only at hSw
      go_simp
      try with_reducible rfl
    simp only [Act.put, List.setIfInBounds_toArray, List.set_cons_zero, List.set_cons_succ]
    refine wpAnyH_take (i := 9) (oi := { dst := some 17, op := _, type := _, pos := _, after := _, guard := _ }) (v := ?_) rfl (by kernel_rfl) (by kernel_rfl) (by kernel_rfl) (fun _ _ _ h => h) (Or.inl ⟨by rfl, ?_⟩) (by assumption) ?_
    case refine_2 =>
      intro w hSw
      try dsimp only at hSw
      go_simp
      try with_reducible rfl
    simp only [Act.put, List.setIfInBounds_toArray, List.set_cons_zero, List.set_cons_succ]
    refine wpAnyH_take (i := 10) (oi := { dst := some 18, op := _, type := _, pos := _, after := _, guard := _ }) (v := ?_) rfl (by kernel_rfl) (by kernel_rfl) (by kernel_rfl) (fun _ _ _ h => h) (Or.inl ⟨by rfl, ?_⟩) (by assumption) ?_
    case refine_2 =>
      intro w hSw
      try dsimp only at hSw
      go_simp
      try with_reducible rfl
    simp only [Act.put, List.setIfInBounds_toArray, List.set_cons_zero, List.set_cons_succ]
    refine wpAnyH_take (i := 11) (oi := { dst := some 19, op := _, type := _, pos := _, after := _, guard := _ }) (v := ?_) rfl (by kernel_rfl) (by kernel_rfl) (by kernel_rfl) (fun _ _ _ h => h) (Or.inl ⟨by rfl, ?_⟩) (by assumption) ?_
    case refine_2 =>
      intro w hSw
      try dsimp only at hSw
      go_simp
      try with_reducible rfl
    simp only [Act.put, List.setIfInBounds_toArray, List.set_cons_zero, List.set_cons_succ]
    refine wpAnyH_take (i := 12) (oi := { dst := some 20, op := _, type := _, pos := _, after := _, guard := _ }) (v := ?_) rfl (by kernel_rfl) (by kernel_rfl) (by kernel_rfl) (fun _ _ _ h => h) (Or.inl ⟨by rfl, ?_⟩) (by assumption) ?_
    case refine_2 =>
      intro w hSw
      try dsimp only at hSw
      go_simp
      try with_reducible rfl
    simp only [Act.put, List.setIfInBounds_toArray, List.set_cons_zero, List.set_cons_succ]
    refine wpAnyH_take (i := 13) (oi := { dst := some 21, op := _, type := _, pos := _, after := _, guard := _ }) (v := ?_) rfl (by kernel_rfl) (by kernel_rfl) (by kernel_rfl) (fun _ _ _ h => h) (Or.inl ⟨by rfl, ?_⟩) (by assumption) ?_
    case refine_2 =>
      intro w hSw
      try dsimp only at hSw
      go_simp
      try with_reducible rfl
    simp only [Act.put, List.setIfInBounds_toArray, List.set_cons_zero, List.set_cons_succ]
    refine wpAnyH_take (i := 14) (oi := { dst := some 22, op := _, type := _, pos := _, after := _, guard := _ }) (v := ?_) rfl (by kernel_rfl) (by kernel_rfl) (by kernel_rfl) (fun _ _ _ h => h) (Or.inl ⟨by rfl, ?_⟩) (by assumption) ?_
    case refine_2 =>
      intro w hSw
      try dsimp only at hSw
      go_simp
      try with_reducible rfl
    simp only [Act.put, List.setIfInBounds_toArray, List.set_cons_zero, List.set_cons_succ]
    refine wpAnyH_take (i := 15) (oi := { dst := some 7, op := _, type := _, pos := _, after := _, guard := _ }) (v := ?_) rfl (by kernel_rfl) (by kernel_rfl) (by kernel_rfl) (fun _ _ _ h => h) (Or.inl ⟨by rfl, ?_⟩) (by assumption) ?_
    case refine_2 =>
      intro w hSw
      try dsimp only at hSw
      go_simp
      try with_reducible rfl
    simp only [Act.put, List.setIfInBounds_toArray, List.set_cons_zero, List.set_cons_succ]
    refine wpAnyH_take (i := 16) (oi := { dst := some 23, op := _, type := _, pos := _, after := _, guard := _ }) (v := ?_) rfl (by kernel_rfl) (by kernel_rfl) (by kernel_rfl) (fun _ _ _ h => h) (Or.inl ⟨by rfl, ?_⟩) (by assumption) ?_
    case refine_2 =>
      intro w hSw
      try dsimp only at hSw
      go_simp
      try with_reducible rfl
    simp only [Act.put, List.setIfInBounds_toArray, List.set_cons_zero, List.set_cons_succ]
    refine wpAnyH_take (i := 17) (oi := { dst := some 24, op := _, type := _, pos := _, after := _, guard := _ }) (v := ?_) rfl (by kernel_rfl) (by kernel_rfl) (by kernel_rfl) (fun _ _ _ h => h) (Or.inl ⟨by rfl, ?_⟩) (by assumption) ?_
    case refine_2 =>
      intro w hSw
      try dsimp only at hSw
      go_simp
      try with_reducible rfl
    simp only [Act.put, List.setIfInBounds_toArray, List.set_cons_zero, List.set_cons_succ]
    refine wpAnyH_take (i := 18) (oi := { dst := some 5, op := _, type := _, pos := _, after := _, guard := _ }) (v := ?_) rfl (by kernel_rfl) (by kernel_rfl) (by kernel_rfl) (fun _ _ _ h => h) (Or.inl ⟨by rfl, ?_⟩) (by assumption) ?_
    case refine_2 =>
      intro w hSw
      try dsimp only at hSw
      go_simp
      try with_reducible rfl
    simp only [Act.put, List.setIfInBounds_toArray, List.set_cons_zero, List.set_cons_succ]
    refine wpAnyH_take (i := 19) (oi := { dst := some 6, op := _, type := _, pos := _, after := _, guard := _ }) (v := ?_) rfl (by kernel_rfl) (by kernel_rfl) (by kernel_rfl) (fun _ _ _ h => h) (Or.inl ⟨by rfl, ?_⟩) (by assumption) ?_
    case refine_2 =>
      intro w hSw
      try dsimp only at hSw
      go_simp
      try with_reducible rfl
    simp only [Act.put, List.setIfInBounds_toArray, List.set_cons_zero, List.set_cons_succ]
    refine wpAnyH_done (by kernel_rfl) ?_ _
    clear hHeld
    go_wp2_with fail
    go_ret
    exact ⟨rfl, Below.drew (Below.refl _ _)⟩
  | none =>
    rw [hf] at lk
    have HL2 : Hid (∀ X : World, X.heap[nb]? = w.heap[nb]? → (Go.Instr.lookup 62 (.map (some nb)) (.string c.under) true).run Tryz.prog X = .ok (.tuple #[.int .i64 0, .bool false]) X) := fun X hX => by
      have := unhide HLK X hX
      rw [hf] at this
      exact this
    clear h hat hn hv hc hL lk hf
    go_enter Tryz.func28, Tryz.ntmps28
    go_wp2_with fail
    refine wp_region_held_drew (S := fun w' => w'.cell? ⟨hp, 2, none⟩ = some (.map (some nb)) ∧ w'.cell? ⟨hp, 0, none⟩ = some (.slice (some ⟨a, 0, none⟩) L cap) ∧ w'.cell? ⟨a, i, none⟩ = some (.pointer (some ⟨bc, 0, none⟩)) ∧ w'.cell? ⟨bc, 2, none⟩ = some (.string c.under) ∧ (Go.Instr.lookup 62 (.map (some nb)) (.string c.under) true).run Tryz.prog w' = .ok (.tuple #[.int .i64 0, .bool false]) w') (by kernel_rfl) ⟨b2, b0, k0, e2, unhide HL2 _ rfl⟩ (fun hHeld => ?_)
    refine wpAnyH_take (i := 0) (oi := { dst := some 8, op := _, type := _, pos := _, after := _, guard := _ }) (v := ?_) rfl (by kernel_rfl) (by kernel_rfl) (by kernel_rfl) (fun _ _ _ h => h) (Or.inl ⟨by rfl, ?_⟩) (by assumption) ?_
    case refine_2 =>
      intro w hSw
      try dsimp only at hSw
      go_simp
      try with_reducible rfl
    simp only [Act.put, List.setIfInBounds_toArray, List.set_cons_zero, List.set_cons_succ]
    refine wpAnyH_take (i := 1) (oi := { dst := some 9, op := _, type := _, pos := _, after := _, guard := _ }) (v := ?_) rfl (by kernel_rfl) (by kernel_rfl) (by kernel_rfl) (fun _ _ _ h => h) (Or.inl ⟨by rfl, ?_⟩) (by assumption) ?_
    case refine_2 =>
      intro w hSw
      try dsimp only at hSw
      go_simp
      try with_reducible rfl
    simp only [Act.put, List.setIfInBounds_toArray, List.set_cons_zero, List.set_cons_succ]
    refine wpAnyH_take (i := 2) (oi := { dst := some 10, op := _, type := _, pos := _, after := _, guard := _ }) (v := ?_) rfl (by kernel_rfl) (by kernel_rfl) (by kernel_rfl) (fun _ _ _ h => h) (Or.inl ⟨by rfl, ?_⟩) (by assumption) ?_
    case refine_2 =>
      intro w hSw
      try dsimp only at hSw
      go_simp
      try with_reducible rfl
    simp only [Act.put, List.setIfInBounds_toArray, List.set_cons_zero, List.set_cons_succ]
    refine wpAnyH_take (i := 3) (oi := { dst := some 11, op := _, type := _, pos := _, after := _, guard := _ }) (v := ?_) rfl (by kernel_rfl) (by kernel_rfl) (by kernel_rfl) (fun _ _ _ h => h) (Or.inl ⟨by rfl, ?_⟩) (by assumption) ?_
    case refine_2 =>
      intro w hSw
      try dsimp only at hSw
      go_simp
      try with_reducible rfl
    simp only [Act.put, List.setIfInBounds_toArray, List.set_cons_zero, List.set_cons_succ]
    refine wpAnyH_take (i := 4) (oi := { dst := some 12, op := _, type := _, pos := _, after := _, guard := _ }) (v := ?_) rfl (by kernel_rfl) (by kernel_rfl) (by kernel_rfl) (fun _ _ _ h => h) (Or.inl ⟨by rfl, ?_⟩) (by assumption) ?_
    case refine_2 =>
      intro w hSw
      try dsimp only at hSw
      go_simp
      try with_reducible rfl
    simp only [Act.put, List.setIfInBounds_toArray, List.set_cons_zero, List.set_cons_succ]
    refine wpAnyH_take (i := 5) (oi := { dst := some 13, op := _, type := _, pos := _, after := _, guard := _ }) (v := ?_) rfl (by kernel_rfl) (by kernel_rfl) (by kernel_rfl) (fun _ _ _ h => h) (Or.inl ⟨by rfl, ?_⟩) (by assumption) ?_
    case refine_2 =>
      intro w hSw
      try dsimp only at hSw
      go_simp
      try with_reducible rfl
    simp only [Act.put, List.setIfInBounds_toArray, List.set_cons_zero, List.set_cons_succ]
    refine wpAnyH_take (i := 6) (oi := { dst := some 14, op := _, type := _, pos := _, after := _, guard := _ }) (v := ?_) rfl (by kernel_rfl) (by kernel_rfl) (by kernel_rfl) (fun _ _ _ h => h) (Or.inl ⟨by rfl, ?_⟩) (by assumption) ?_
    case refine_2 =>
      intro w hSw
      try dsimp only at hSw
      go_simp
      try with_reducible rfl
    simp only [Act.put, List.setIfInBounds_toArray, List.set_cons_zero, List.set_cons_succ]
    refine wpAnyH_take (i := 7) (oi := { dst := some 15, op := _, type := _, pos := _, after := _, guard := _ }) (v := ?_) rfl (by kernel_rfl) (by kernel_rfl) (by kernel_rfl) (fun _ _ _ h => h) (Or.inl ⟨by rfl, ?_⟩) (by assumption) ?_
    case refine_2 =>
      intro w hSw
      try dsimp only at hSw
      go_simp
      try with_reducible rfl
    simp only [Act.put, List.setIfInBounds_toArray, List.set_cons_zero, List.set_cons_succ]
    refine wpAnyH_take (i := 8) (oi := { dst := some 16, op := _, type := _, pos := _, after := _, guard := _ }) (v := ?_) rfl (by kernel_rfl) (by kernel_rfl) (by kernel_rfl) (fun _ _ _ h => h) (Or.inl ⟨by rfl, ?_⟩) (by assumption) ?_
    case refine_2 =>
      intro w hSw
      try dsimp only at hSw
      go_simp
      try with_reducible rfl
    simp only [Act.put, List.setIfInBounds_toArray, List.set_cons_zero, List.set_cons_succ]
    refine wpAnyH_take (i := 9) (oi := { dst := some 17, op := _, type := _, pos := _, after := _, guard := _ }) (v := ?_) rfl (by kernel_rfl) (by kernel_rfl) (by kernel_rfl) (fun _ _ _ h => h) (Or.inl ⟨by rfl, ?_⟩) (by assumption) ?_
    case refine_2 =>
      intro w hSw
      try dsimp only at hSw
      go_simp
      try with_reducible rfl
    simp only [Act.put, List.setIfInBounds_toArray, List.set_cons_zero, List.set_cons_succ]
    refine wpAnyH_take (i := 10) (oi := { dst := some 18, op := _, type := _, pos := _, after := _, guard := _ }) (v := ?_) rfl (by kernel_rfl) (by kernel_rfl) (by kernel_rfl) (fun _ _ _ h => h) (Or.inl ⟨by rfl, ?_⟩) (by assumption) ?_
    case refine_2 =>
      intro w hSw
      try dsimp only at hSw
      go_simp
      try with_reducible rfl
    simp only [Act.put, List.setIfInBounds_toArray, List.set_cons_zero, List.set_cons_succ]
    refine wpAnyH_take (i := 11) (oi := { dst := some 19, op := _, type := _, pos := _, after := _, guard := _ }) (v := ?_) rfl (by kernel_rfl) (by kernel_rfl) (by kernel_rfl) (fun _ _ _ h => h) (Or.inl ⟨by rfl, ?_⟩) (by assumption) ?_
    case refine_2 =>
      intro w hSw
      try dsimp only at hSw
      go_simp
      try with_reducible rfl
    simp only [Act.put, List.setIfInBounds_toArray, List.set_cons_zero, List.set_cons_succ]
    refine wpAnyH_take (i := 12) (oi := { dst := some 20, op := _, type := _, pos := _, after := _, guard := _ }) (v := ?_) rfl (by kernel_rfl) (by kernel_rfl) (by kernel_rfl) (fun _ _ _ h => h) (Or.inl ⟨by rfl, ?_⟩) (by assumption) ?_
    case refine_2 =>
      intro w hSw
      try dsimp only at hSw
      go_simp
      try with_reducible rfl
    simp only [Act.put, List.setIfInBounds_toArray, List.set_cons_zero, List.set_cons_succ]
    refine wpAnyH_take (i := 13) (oi := { dst := some 21, op := _, type := _, pos := _, after := _, guard := _ }) (v := ?_) rfl (by kernel_rfl) (by kernel_rfl) (by kernel_rfl) (fun _ _ _ h => h) (Or.inl ⟨by rfl, ?_⟩) (by assumption) ?_
    case refine_2 =>
      intro w hSw
      try dsimp only at hSw
      go_simp
      try with_reducible rfl
    simp only [Act.put, List.setIfInBounds_toArray, List.set_cons_zero, List.set_cons_succ]
    refine wpAnyH_take (i := 14) (oi := { dst := some 22, op := _, type := _, pos := _, after := _, guard := _ }) (v := ?_) rfl (by kernel_rfl) (by kernel_rfl) (by kernel_rfl) (fun _ _ _ h => h) (Or.inl ⟨by rfl, ?_⟩) (by assumption) ?_
    case refine_2 =>
      intro w hSw
      try dsimp only at hSw
      go_simp
      try with_reducible rfl
    simp only [Act.put, List.setIfInBounds_toArray, List.set_cons_zero, List.set_cons_succ]
    refine wpAnyH_take (i := 15) (oi := { dst := some 7, op := _, type := _, pos := _, after := _, guard := _ }) (v := ?_) rfl (by kernel_rfl) (by kernel_rfl) (by kernel_rfl) (fun _ _ _ h => h) (Or.inl ⟨by rfl, ?_⟩) (by assumption) ?_
    case refine_2 =>
      intro w hSw
      try dsimp only at hSw
      go_simp
      try with_reducible rfl
    simp only [Act.put, List.setIfInBounds_toArray, List.set_cons_zero, List.set_cons_succ]
    refine wpAnyH_take (i := 16) (oi := { dst := some 23, op := _, type := _, pos := _, after := _, guard := _ }) (v := ?_) rfl (by kernel_rfl) (by kernel_rfl) (by kernel_rfl) (fun _ _ _ h => h) (Or.inl ⟨by rfl, ?_⟩) (by assumption) ?_
    case refine_2 =>
      intro w hSw
      try dsimp only at hSw
      go_simp
      try with_reducible rfl
    simp only [Act.put, List.setIfInBounds_toArray, List.set_cons_zero, List.set_cons_succ]
    refine wpAnyH_take (i := 17) (oi := { dst := some 24, op := _, type := _, pos := _, after := _, guard := _ }) (v := ?_) rfl (by kernel_rfl) (by kernel_rfl) (by kernel_rfl) (fun _ _ _ h => h) (Or.inl ⟨by rfl, ?_⟩) (by assumption) ?_
    case refine_2 =>
      intro w hSw
      try dsimp only at hSw
      go_simp
      try with_reducible rfl
    simp only [Act.put, List.setIfInBounds_toArray, List.set_cons_zero, List.set_cons_succ]
    refine wpAnyH_take (i := 18) (oi := { dst := some 5, op := _, type := _, pos := _, after := _, guard := _ }) (v := ?_) rfl (by kernel_rfl) (by kernel_rfl) (by kernel_rfl) (fun _ _ _ h => h) (Or.inl ⟨by rfl, ?_⟩) (by assumption) ?_
    case refine_2 =>
      intro w hSw
      try dsimp only at hSw
      go_simp
      try with_reducible rfl
    simp only [Act.put, List.setIfInBounds_toArray, List.set_cons_zero, List.set_cons_succ]
    refine wpAnyH_take (i := 19) (oi := { dst := some 6, op := _, type := _, pos := _, after := _, guard := _ }) (v := ?_) rfl (by kernel_rfl) (by kernel_rfl) (by kernel_rfl) (fun _ _ _ h => h) (Or.inl ⟨by rfl, ?_⟩) (by assumption) ?_
    case refine_2 =>
      intro w hSw
      try dsimp only at hSw
      go_simp
      try with_reducible rfl
    simp only [Act.put, List.setIfInBounds_toArray, List.set_cons_zero, List.set_cons_succ]
    refine wpAnyH_done (by kernel_rfl) ?_ _
    clear hHeld
    go_wp2_with fail
    go_ret
    exact ⟨rfl, Below.drew (Below.refl _ _)⟩
end Go.Proofs.YtjcoobkpmpjpbaaGreatDoor

namespace Go.Proofs.YtjcoobkpmpjpbaaGreatDoor
open Go.RowKit Go.Maps
set_option linter.unusedSimpArgs false

theorem climb_none {cs : List Tree} {f : Nat} {s : ByteArray} (h : numF cs s = none) : climb cs (f + 1) s = true := by rw [climb, h]
theorem climb_some {cs : List Tree} {f : Nat} {s : ByteArray} {k : Nat} {c : Tree} (h : numF cs s = some k) (hc : cs[k]? = some c) : climb cs (f + 1) s = climb cs f c.under := by rw [climb, h]; simp only [hc]

set_option maxRecDepth 100000 in
set_option maxHeartbeats 8000000 in
theorem checkAbove_any {M : Nat} {w : World} {hp nb : Nat} {vcl vfn : Value} {cs fns : List Tree} (h : HdAt M w hp nb vcl vfn cs fns) (hws : ∀ c ∈ cs, c.under.size ≤ 300) {b : Nat} {t : Tree} (hn : NodeAt (fun k => k < M) w (.pointer (some ⟨b, 0, none⟩)) t) (hcl : cs.length ≤ 1000000) (ht : t.text.size ≤ 300) (hu : t.under.size ≤ 300) :
    Calls Tryz.prog 25 #[.pointer (some ⟨hp, 0, none⟩), .pointer (some ⟨b, 0, none⟩)] w fun e w' => ItPost w (aboveOk cs t) e w' := by
  have HB := hide (Below.drew (Below.refl w.heap.size w))
  have b0 : w.drew.cell? ⟨hp, 0, none⟩ = some vcl := hcell h.blk 0
  have b2 : w.drew.cell? ⟨hp, 2, none⟩ = some (.map (some nb)) := hcell h.blk 2
  obtain ⟨ks, hv⟩ := node_view hn
  have e1 : w.drew.cell? ⟨b, 1, none⟩ = _ := hv.c1
  have e2 : w.drew.cell? ⟨b, 2, none⟩ = _ := hv.c2
  have e4 : w.drew.cell? ⟨b, 4, none⟩ = _ := hv.c4
  obtain ⟨g, cap, rfl, hmax, hat⟩ := h.cls
  have HAT := hide hat
  obtain ⟨L, hL⟩ : ∃ L, cs.length = L := ⟨_, rfl⟩
  have HLEN := hide hL
  rw [hL] at b0 hmax hcl
  clear hmax
  have HNU := hide h.num
  have HLK := hide (fun (X : World) (hX : X.heap[nb]? = w.heap[nb]?) (s : ByteArray) (hs : s.size ≤ 300) => ((unhide HNU).keep hX).look hs)
  have HWS := hide hws
  have HT := hide ht
  obtain ⟨fu, hfu⟩ : ∃ fu, numF cs t.under = fu := ⟨_, rfl⟩
  have lk := unhide HLK w rfl t.under hu
  rw [hfu] at lk
  have lkd := unhide HLK w.drew rfl t.under hu
  rw [hfu] at lkd
  have HFU := hide hfu
  clear h hn hv hat hL hws hfu
  have hbt := beq_text t.under ⟨#[]⟩
  have HA : Hid (aboveOk cs t = ((decide (t.under = noName) || fu.isSome) && climb cs (cs.length + 1) t.text)) := by
    unfold aboveOk
    rw [unhide HFU]
    rfl
  generalize aboveOk cs t = R at HA ⊢
  go_enter Tryz.func25, Tryz.ntmps25
  go_wp2_with fail
  refine wp_region_held_drew (S := fun w' => w'.cell? ⟨hp, 2, none⟩ = some (.map (some nb)) ∧ w'.cell? ⟨b, 2, none⟩ = some (.string t.under) ∧ (Go.Instr.lookup 62 (.map (some nb)) (.string t.under) true).run Tryz.prog w' = .ok (.tuple #[.int .i64 (numV fu), .bool fu.isSome]) w') (by kernel_rfl) ⟨b2, e2, lkd⟩ (fun hHeld => ?_)
  refine wpAnyH_take (i := 0) (oi := { dst := some 11, op := _, type := _, pos := _, after := _, guard := _ }) (v := ?_) rfl (by kernel_rfl) (by kernel_rfl) (by kernel_rfl) (fun _ _ _ h => h) (Or.inl ⟨by rfl, ?_⟩) (by assumption) ?_
  case refine_2 =>
    intro w hSw
    try dsimp only at hSw
    go_simp
    try with_reducible rfl
  simp only [Act.put, List.setIfInBounds_toArray, List.set_cons_zero, List.set_cons_succ]
  refine wpAnyH_take (i := 1) (oi := { dst := some 12, op := _, type := _, pos := _, after := _, guard := _ }) (v := ?_) rfl (by kernel_rfl) (by kernel_rfl) (by kernel_rfl) (fun _ _ _ h => h) (Or.inl ⟨by rfl, ?_⟩) (by assumption) ?_
  case refine_2 =>
    intro w hSw
    try dsimp only at hSw
    go_simp
    try with_reducible rfl
  simp only [Act.put, List.setIfInBounds_toArray, List.set_cons_zero, List.set_cons_succ]
  refine wpAnyH_take (i := 2) (oi := { dst := some 13, op := _, type := _, pos := _, after := _, guard := _ }) (v := ?_) rfl (by kernel_rfl) (by kernel_rfl) (by kernel_rfl) (fun _ _ _ h => h) (Or.inl ⟨by rfl, ?_⟩) (by assumption) ?_
  case refine_2 =>
    intro w hSw
    try dsimp only at hSw
    go_simp
    try with_reducible rfl
  simp only [Act.put, List.setIfInBounds_toArray, List.set_cons_zero, List.set_cons_succ]
  refine wpAnyH_take (i := 3) (oi := { dst := some 14, op := _, type := _, pos := _, after := _, guard := _ }) (v := ?_) rfl (by kernel_rfl) (by kernel_rfl) (by kernel_rfl) (fun _ _ _ h => h) (Or.inl ⟨by rfl, ?_⟩) (by assumption) ?_
  case refine_2 =>
    intro w hSw
    try dsimp only at hSw
    go_simp
    try with_reducible rfl
  simp only [Act.put, List.setIfInBounds_toArray, List.set_cons_zero, List.set_cons_succ]
  refine wpAnyH_take (i := 4) (oi := { dst := some 15, op := _, type := _, pos := _, after := _, guard := _ }) (v := ?_) rfl (by kernel_rfl) (by kernel_rfl) (by kernel_rfl) (fun _ _ _ h => h) (Or.inl ⟨by rfl, ?_⟩) (by assumption) ?_
  case refine_2 =>
    intro w hSw
    try dsimp only at hSw
    go_simp
    try with_reducible rfl
  simp only [Act.put, List.setIfInBounds_toArray, List.set_cons_zero, List.set_cons_succ]
  refine wpAnyH_take (i := 5) (oi := { dst := some 16, op := _, type := _, pos := _, after := _, guard := _ }) (v := ?_) rfl (by kernel_rfl) (by kernel_rfl) (by kernel_rfl) (fun _ _ _ h => h) (Or.inl ⟨by rfl, ?_⟩) (by assumption) ?_
  case refine_2 =>
    intro w hSw
    try dsimp only at hSw
    go_simp
    try with_reducible rfl
  simp only [Act.put, List.setIfInBounds_toArray, List.set_cons_zero, List.set_cons_succ]
  refine wpAnyH_take (i := 6) (oi := { dst := some 17, op := _, type := _, pos := _, after := _, guard := _ }) (v := ?_) rfl (by kernel_rfl) (by kernel_rfl) (by kernel_rfl) (fun _ _ _ h => h) (Or.inl ⟨by rfl, ?_⟩) (by assumption) ?_
  case refine_2 =>
    intro w hSw
    try dsimp only at hSw
    go_simp
    try with_reducible rfl
  simp only [Act.put, List.setIfInBounds_toArray, List.set_cons_zero, List.set_cons_succ]
  refine wpAnyH_take (i := 7) (oi := { dst := some 18, op := _, type := _, pos := _, after := _, guard := _ }) (v := ?_) rfl (by kernel_rfl) (by kernel_rfl) (by kernel_rfl) (fun _ _ _ h => h) (Or.inl ⟨by rfl, ?_⟩) (by assumption) ?_
  case refine_2 =>
    intro w hSw
    try dsimp only at hSw
    go_simp
    try with_reducible rfl
  simp only [Act.put, List.setIfInBounds_toArray, List.set_cons_zero, List.set_cons_succ]
  refine wpAnyH_take (i := 8) (oi := { dst := some 19, op := _, type := _, pos := _, after := _, guard := _ }) (v := ?_) rfl (by kernel_rfl) (by kernel_rfl) (by kernel_rfl) (fun _ _ _ h => h) (Or.inl ⟨by rfl, ?_⟩) (by assumption) ?_
  case refine_2 =>
    intro w hSw
    try dsimp only at hSw
    go_simp
    try with_reducible rfl
  simp only [Act.put, List.setIfInBounds_toArray, List.set_cons_zero, List.set_cons_succ]
  refine wpAnyH_take (i := 9) (oi := { dst := some 10, op := _, type := _, pos := _, after := _, guard := _ }) (v := ?_) rfl (by kernel_rfl) (by kernel_rfl) (by kernel_rfl) (fun _ _ _ h => h) (Or.inl ⟨by rfl, ?_⟩) (by assumption) ?_
  case refine_2 =>
    intro w hSw
    try dsimp only at hSw
    go_simp
    try with_reducible rfl
  simp only [Act.put, List.setIfInBounds_toArray, List.set_cons_zero, List.set_cons_succ]
  refine wpAnyH_take (i := 10) (oi := { dst := some 20, op := _, type := _, pos := _, after := _, guard := _ }) (v := ?_) rfl (by kernel_rfl) (by kernel_rfl) (by kernel_rfl) (fun _ _ _ h => h) (Or.inl ⟨by rfl, ?_⟩) (by assumption) ?_
  case refine_2 =>
    intro w hSw
    try dsimp only at hSw
    go_simp
    try with_reducible rfl
  simp only [Act.put, List.setIfInBounds_toArray, List.set_cons_zero, List.set_cons_succ]
  refine wpAnyH_take (i := 11) (oi := { dst := some 21, op := _, type := _, pos := _, after := _, guard := _ }) (v := ?_) rfl (by kernel_rfl) (by kernel_rfl) (by kernel_rfl) (fun _ _ _ h => h) (Or.inl ⟨by rfl, ?_⟩) (by assumption) ?_
  case refine_2 =>
    intro w hSw
    try dsimp only at hSw
    go_simp
    try with_reducible rfl
  simp only [Act.put, List.setIfInBounds_toArray, List.set_cons_zero, List.set_cons_succ]
  refine wpAnyH_take (i := 12) (oi := { dst := some 5, op := _, type := _, pos := _, after := _, guard := _ }) (v := ?_) rfl (by kernel_rfl) (by kernel_rfl) (by kernel_rfl) (fun _ _ _ h => h) (Or.inl ⟨by rfl, ?_⟩) (by assumption) ?_
  case refine_2 =>
    intro w hSw
    try dsimp only at hSw
    go_simp
    try with_reducible rfl
  simp only [Act.put, List.setIfInBounds_toArray, List.set_cons_zero, List.set_cons_succ]
  refine wpAnyH_take (i := 13) (oi := { dst := some 6, op := _, type := _, pos := _, after := _, guard := _ }) (v := ?_) rfl (by kernel_rfl) (by kernel_rfl) (by kernel_rfl) (fun _ _ _ h => h) (Or.inl ⟨by rfl, ?_⟩) (by assumption) ?_
  case refine_2 =>
    intro w hSw
    try dsimp only at hSw
    go_simp
    try with_reducible rfl
  simp only [Act.put, List.setIfInBounds_toArray, List.set_cons_zero, List.set_cons_succ]
  refine wpAnyH_done (by kernel_rfl) ?_ _
  clear hHeld lk lkd
  by_cases hun : t.under = noName
  · have HA2 := hide (show R = climb cs (L + 1) t.text by
      rw [unhide HA, unhide HLEN, decide_eq_true hun]
      rfl)
    have hte : t.under.toList = [] := by rw [hun, toList_data]; rfl
    have hie : t.under.toList.isEmpty = true := by rw [hte]; rfl
    clear hbt
    have HUN := hide hun
    clear hun HA
    go_wp2_with fail
    go_loopg [7, 43] (L + 1) (fun gg nv iv wr => ∃ (i : Nat) (s : ByteArray), i ≤ L + 1 ∧ gg = L + 1 - i ∧ nv = .string s ∧ iv = .int .i64 i ∧ wr = w.drew ∧ Hid (R = climb cs (L + 1 - i) s) ∧ Hid (s.size ≤ 300))
    case atStart => exact ⟨0, t.text, Nat.zero_le _, rfl, rfl, rfl, rfl, unhide HA2, unhide HT⟩
    case round =>
      obtain ⟨i, s, hi, rfl, rfl, rfl, rfl, HC, HS⟩ := hrel
      by_cases hlt2 : i < L + 1
      · have hlt3 : (i : Int) < (L : Int) + 1 := by omega
        obtain ⟨f, hf⟩ : ∃ f, L + 1 - i = f + 1 := ⟨L - i, by omega⟩
        have lk := unhide HLK w.drew rfl s (unhide HS)
        cases hk : numF cs s with
        | none =>
          rw [hk] at lk
          have HC2 := hide (show R = true by rw [unhide HC, hf, climb_none hk])
          clear hk hf
          go_wp2_with fail
          go_ret
          exact ⟨unhide HB, Or.inl ⟨unhide HC2, rfl⟩⟩
        | some k =>
          rw [hk] at lk
          obtain ⟨c, hc, _⟩ := numF_some hk
          obtain ⟨a, bc, rfl, ha, k0, hnc⟩ := unhide HAT k c hc
          obtain ⟨kk, hkv⟩ := node_view hnc
          have x2 : w.drew.cell? ⟨bc, 2, none⟩ = _ := hkv.c2
          have x0 : w.drew.cell? ⟨a, k, none⟩ = _ := k0
          have hkl : (k : Int) < (L : Int) := by have := (List.getElem?_eq_some_iff.1 hc).1; have := unhide HLEN; omega
          have HC2 := hide (show R = climb cs (L + 1 - (i + 1)) c.under by rw [unhide HC, hf, climb_some hk hc]; congr 1; omega)
          have HS2 := hide (unhide HWS c (List.mem_of_getElem? hc))
          have hnv : numV (some k) = (k : Int) := rfl
          rw [hnv] at lk
          clear hk hf hc hnc hkv k0 hnv
          go_wp2_with fail
          go_roundg (L + 1 - (i + 1))
          case measure => omega
          case rel => exact ⟨i + 1, c.under, by omega, rfl, rfl, by go_num, rfl, HC2, HS2⟩
      · obtain rfl : i = L + 1 := by omega
        have hlt3 : decide (((L + 1 : Nat) : Int) < (L : Int) + 1) = false := by simp
        have HC2 := hide (show R = false by rw [unhide HC, Nat.sub_self]; rfl)
        go_wp2_with fail
        refine (wrong_any 11 e4).mono ?_
        rintro e W9 ⟨hb9, pp, rfl⟩
        have HB9 := hide ((unhide HB).trans (hb9.mono (unhide HB).size))
        clear hb9
        go_wp2_with fail
        go_ret
        exact ⟨unhide HB9, Or.inr ⟨unhide HC2, _, _, rfl⟩⟩
  · have hte : ¬ t.under.toList = [] := fun q => hun (by
      rw [toList_data] at q
      cases hq : t.under with
      | mk d =>
        rw [hq] at q
        exact congrArg ByteArray.mk (Array.toList_inj.1 q))
    have hie : t.under.toList.isEmpty = false := by
      cases hq : t.under.toList with
      | nil => exact absurd hq hte
      | cons _ _ => rfl
    clear hbt
    cases fu with
    | none =>
      have HA2 := hide (show R = false by
        rw [unhide HA, decide_eq_false hun]
        rfl)
      have HUN := hide hun
      clear hun HA
      go_wp2_with fail
      refine (wrong_any 7 e4).mono ?_
      rintro e W9 ⟨hb9, pp, rfl⟩
      have HB9 := hide ((unhide HB).trans (hb9.mono (unhide HB).size))
      clear hb9
      go_wp2_with fail
      go_ret
      exact ⟨unhide HB9, Or.inr ⟨unhide HA2, _, _, rfl⟩⟩
    | some k0 =>
      have HA2 := hide (show R = climb cs (L + 1) t.text by
        rw [unhide HA, unhide HLEN, decide_eq_false hun]
        rfl)
      have HUN := hide hun
      clear hun HA
      go_wp2_with fail
      go_loopg [7, 43] (L + 1) (fun gg nv iv wr => ∃ (i : Nat) (s : ByteArray), i ≤ L + 1 ∧ gg = L + 1 - i ∧ nv = .string s ∧ iv = .int .i64 i ∧ wr = w.drew ∧ Hid (R = climb cs (L + 1 - i) s) ∧ Hid (s.size ≤ 300))
      case atStart => exact ⟨0, t.text, Nat.zero_le _, rfl, rfl, rfl, rfl, unhide HA2, unhide HT⟩
      case round =>
        obtain ⟨i, s, hi, rfl, rfl, rfl, rfl, HC, HS⟩ := hrel
        by_cases hlt2 : i < L + 1
        · have hlt3 : (i : Int) < (L : Int) + 1 := by omega
          obtain ⟨f, hf⟩ : ∃ f, L + 1 - i = f + 1 := ⟨L - i, by omega⟩
          have lk := unhide HLK w.drew rfl s (unhide HS)
          cases hk : numF cs s with
          | none =>
            rw [hk] at lk
            have HC2 := hide (show R = true by rw [unhide HC, hf, climb_none hk])
            clear hk hf
            go_wp2_with fail
            go_ret
            exact ⟨unhide HB, Or.inl ⟨unhide HC2, rfl⟩⟩
          | some k =>
            rw [hk] at lk
            obtain ⟨c, hc, _⟩ := numF_some hk
            obtain ⟨a, bc, rfl, ha, k0, hnc⟩ := unhide HAT k c hc
            obtain ⟨kk, hkv⟩ := node_view hnc
            have x2 : w.drew.cell? ⟨bc, 2, none⟩ = _ := hkv.c2
            have x0 : w.drew.cell? ⟨a, k, none⟩ = _ := k0
            have hkl : (k : Int) < (L : Int) := by have := (List.getElem?_eq_some_iff.1 hc).1; have := unhide HLEN; omega
            have HC2 := hide (show R = climb cs (L + 1 - (i + 1)) c.under by rw [unhide HC, hf, climb_some hk hc]; congr 1; omega)
            have HS2 := hide (unhide HWS c (List.mem_of_getElem? hc))
            have hnv : numV (some k) = (k : Int) := rfl
            rw [hnv] at lk
            clear hk hf hc hnc hkv k0 hnv
            go_wp2_with fail
            go_roundg (L + 1 - (i + 1))
            case measure => omega
            case rel => exact ⟨i + 1, c.under, by omega, rfl, rfl, by go_num, rfl, HC2, HS2⟩
        · obtain rfl : i = L + 1 := by omega
          have hlt3 : decide (((L + 1 : Nat) : Int) < (L : Int) + 1) = false := by simp
          have HC2 := hide (show R = false by rw [unhide HC, Nat.sub_self]; rfl)
          go_wp2_with fail
          refine (wrong_any 11 e4).mono ?_
          rintro e W9 ⟨hb9, pp, rfl⟩
          have HB9 := hide ((unhide HB).trans (hb9.mono (unhide HB).size))
          clear hb9
          go_wp2_with fail
          go_ret
          exact ⟨unhide HB9, Or.inr ⟨unhide HC2, _, _, rfl⟩⟩
end Go.Proofs.YtjcoobkpmpjpbaaGreatDoor
