/-
  The document's numbers of values: a map, and one who comes to an instruction.
-/
import Derived.Test.YtpfhnmgfcmkidaaDoorCEffA
import Derived.Maps.OwnSet
import Derived.Maps.OwnOps
namespace Go.Proofs.YtpfhnmgfcmkidaaDoor
open Go.RowKit Go.Maps

theorem keyInt : Keyed Tryd.prog 3 := int_keyed Tryd.underlying3
theorem zeroInt (w : World) : (zeroValue 3).run Tryd.prog w = .ok (.int .i64 0) w := by kernel_rfl
def kl (p : Nat) : Lit := .int .i64 (p : Int)
theorem kl_lit (p : Nat) : WideAt.IsKeyLit (kl p) := (show WideAt.IsKeyLit (.int .i64 (p : Int)) from trivial)
theorem kl_wf {p : Nat} (h : p ≤ 100000) : (Lit.int .i64 (p : Int)).wf = true := WalkArith.wf_i64 (by omega)
theorem kl_ne {p q : Nat} (h : p ≠ q) : kl p ≠ kl q := fun e => h (by unfold kl at e; injection e with _ e; omega)
theorem kl_key {p : Nat} (h : p ≤ 100000) : keyOf Tryd.prog 3 (.int .i64 (p : Int)) = some (kl p) := keyOf_int_mk Tryd.underlying3 (kl_wf h)

/-- A map that holds, of each number, another, or nothing. -/
def MapAt (w : World) (b : Nat) (f : Nat → Option Nat) (n : Nat) : Prop :=
  ∃ D : DataW Unit, w.ownsMap Tryd.prog 3 (plainElem Tryd.prog 3) b n D ∧ (∀ p k, f p = some k → Maps.has D (kl p) = true ∧ D.atKey (kl p) (.lit (.int .i64 0)) = .lit (.int .i64 (k : Int))) ∧ ∀ p, f p = none → Maps.has D (kl p) = false
theorem MapAt.keep {w w' : World} {b : Nat} {f : Nat → Option Nat} {n : Nat} (h : MapAt w b f n) (hb : w'.heap[b]? = w.heap[b]?) : MapAt w' b f n := by
  obtain ⟨D, ⟨es, clock, h1, h2⟩, h3⟩ := h
  exact ⟨D, ⟨es, clock, hb.trans h1, h2⟩, h3⟩
theorem MapAt.lt {w : World} {b : Nat} {f : Nat → Option Nat} {n : Nat} (h : MapAt w b f n) : b < w.heap.size := by
  obtain ⟨D, h1, _⟩ := h
  exact h1.lt
theorem MapAt.look {w : World} {b : Nat} {f : Nat → Option Nat} {n : Nat} (h : MapAt w b f n) {p : Nat} (hp : p ≤ 100000) :
    (∀ k, f p = some k → (Go.Instr.lookup 108 (.map (some b)) (.int .i64 (p : Int)) true).run Tryd.prog w = .ok (.tuple #[.int .i64 (k : Int), .bool true]) w) ∧ (f p = none → ∃ c, (Go.Instr.lookup 108 (.map (some b)) (.int .i64 (p : Int)) true).run Tryd.prog w = .ok (.tuple #[.int .i64 c, .bool false]) w) := by
  obtain ⟨D, h1, h2, h3⟩ := h
  obtain ⟨v, ps, hrun, hv⟩ := h1.look_ok keyInt Tryd.underlying108 (zeroInt w) (plainElem_int Tryd.underlying3 (by decide)) (kl_key hp)
  obtain ⟨c, rfl, hc, hwc⟩ := plainElem_int_inv Tryd.underlying3 hv
  simp only [Prod.mk.injEq] at hc
  constructor
  · intro k hk
    obtain ⟨e1, e2⟩ := h2 p k hk
    have : (c : Int) = k := by
      have := hc.1.symm.trans e2
      simpa only [DataW.lit.injEq, Lit.int.injEq, true_and] using this
    rw [hrun, e1, this]
  · intro hn
    exact ⟨c, by rw [hrun, h3 p hn]⟩
theorem MapAt.put {w : World} {b : Nat} {f : Nat → Option Nat} {n : Nat} (h : MapAt w b f n) {p k : Nat} (hp : p ≤ 100000) (hk : k ≤ 100000) (hn : n ≤ 100000) :
    ∃ w', (Go.Instr.mapUpdate 108 (.map (some b)) (.int .i64 (p : Int)) (.int .i64 (k : Int))).run Tryd.prog w = .ok () w' ∧ MapAt w' b (upd f p k) (n + 1) ∧ w.grownBy w' (some b) := by
  obtain ⟨D, h1, h2, h3⟩ := h
  have hm : Maps.IsMap D := by
    obtain ⟨_, _, _, _, _, e⟩ := h1
    exact ⟨_, e⟩
  obtain ⟨w', hrun, hown, hg⟩ := h1.update keyInt Tryd.underlying108 (by unfold maxLen; omega) (kl_key hp) (plainElem_int Tryd.underlying3 (kl_wf hk))
  refine ⟨w', hrun, ⟨_, hown, fun q j hq => ?_, fun q hq => ?_⟩, hg⟩
  · by_cases e : q = p
    · subst e
      rw [upd_same] at hq
      cases hq
      exact ⟨Maps.has_put_same hm (kl_lit q) _, Maps.atKey_put_same hm (kl_lit q) _ _⟩
    · rw [upd_other f p k e] at hq
      rw [Maps.has_put_other (kl_ne e), Maps.atKey_put_other (kl_ne e)]
      exact h2 q j hq
  · have e : q ≠ p := fun e => by rw [e, upd_same] at hq; cases hq
    rw [upd_other f p k e] at hq
    rw [Maps.has_put_other (kl_ne e)]
    exact h3 q hq
theorem MapAt.made (w : World) : MapAt (w.alloc (.map #[] 0)) w.heap.size (fun _ => none) 0 :=
  ⟨_, World.ownsMap_made w _ _ _, fun p k h => (by cases h), fun p _ => rfl⟩

/-- The closure's memory: the function, whether all is good, the numbers. -/
structure RSt (B : Nat) (w : World) (fb gb qb mb : Nat) (g : Option Addr) (N cap : Nat) (good : Bool) (f : Nat → Option Nat) : Prop where
  fc : w.cell? ⟨fb, 3, none⟩ = some (.slice g N cap)
  gc : ∃ t, w.heap[gb]? = some (.cells #[.bool good] t (0, 0))
  qc : w.cell? ⟨qb, 0, none⟩ = some (.map (some mb))
  mc : MapAt w mb f (N - unset f N)
  b1 : B ≤ gb
  b2 : B ≤ mb
  n1 : gb ≠ fb
  n2 : gb ≠ qb
  n3 : gb ≠ mb
  n4 : mb ≠ fb
  n5 : mb ≠ qb
theorem RSt.keep {B : Nat} {w w' : World} {fb gb qb mb : Nat} {g : Option Addr} {N cap : Nat} {good : Bool} {f : Nat → Option Nat} (h : RSt B w fb gb qb mb g N cap good f) (hb : Below w.heap.size w w') : RSt B w' fb gb qb mb g N cap good f := by
  obtain ⟨h1, ⟨t, h2⟩, h3, h4, h5, h6, n1, n2, n3, n4, n5⟩ := h
  exact ⟨cellk hb h1 (cell_lt h1), ⟨t, (hb.block gb (hlt h2)).trans h2⟩, cellk hb h3 (cell_lt h3), h4.keep (hb.block mb h4.lt), h5, h6, n1, n2, n3, n4, n5⟩
theorem RSt.bad {B : Nat} {w : World} {fb gb qb mb : Nat} {g : Option Addr} {N cap : Nat} {good : Bool} {f : Nat → Option Nat} (h : RSt B w fb gb qb mb g N cap good f) : RSt B (w.setCell ⟨gb, 0, none⟩ (.bool false)) fb gb qb mb g N cap false f := by
  obtain ⟨h1, ⟨t, h2⟩, h3, h4, h5, h6, n1, n2, n3, n4, n5⟩ := h
  exact ⟨(World.cell?_of_block (hother _ (Ne.symm n1))).trans h1, ⟨t, by rw [hset h2]; rfl⟩, (World.cell?_of_block (hother _ (Ne.symm n2))).trans h3, h4.keep (hother _ (Ne.symm n3)), h5, h6, n1, n2, n3, n4, n5⟩
theorem RSt.put {B : Nat} {w w' : World} {fb gb qb mb : Nat} {g : Option Addr} {N cap : Nat} {good : Bool} {f : Nat → Option Nat} (h : RSt B w fb gb qb mb g N cap good f) {p k : Nat} (hp : f p = none) (hN : p < N) (hm : MapAt w' mb (upd f p k) (N - unset f N + 1)) (hg : w.grownBy w' (some mb)) : RSt B w' fb gb qb mb g N cap good (upd f p k) := by
  obtain ⟨h1, ⟨t, h2⟩, h3, h4, h5, h6, n1, n2, n3, n4, n5⟩ := h
  refine ⟨(hg.cell_far _ (cell_lt h1) (fun e => n4 (Option.some.inj e).symm)).trans h1, ⟨t, (hg.block gb (hlt h2) (fun e => n3 (Option.some.inj e))).trans h2⟩, (hg.cell_far _ (cell_lt h3) (fun e => n5 (Option.some.inj e).symm)).trans h3, ?_, h5, h6, n1, n2, n3, n4, n5⟩
  have e := unset_upd (f := f) (n := k) hp N hN
  have e2 := unset_le f N
  rw [show N - unset (upd f p k) N = N - unset f N + 1 by omega]
  exact hm

def RCome (B : Nat) (w : World) (fb gb qb mb : Nat) (g : Option Addr) (N cap : Nat) (good : Bool) (f : Nat → Option Nat) (p n : Nat) (e : Ending) (w' : World) : Prop :=
  Below B w w' ∧
  ((comeP N f p n = none ∧ e = .returned (.bool false) ∧ RSt B w' fb gb qb mb g N cap false f) ∨
   (comeP N f p n = some (f, false) ∧ e = .returned (.bool false) ∧ RSt B w' fb gb qb mb g N cap good f) ∨
   (comeP N f p n = some (upd f p n, true) ∧ f p = none ∧ e = .returned (.bool true) ∧ RSt B w' fb gb qb mb g N cap good (upd f p n)))

set_option maxRecDepth 100000 in
set_option maxHeartbeats 4000000 in
theorem rcome_any {B : Nat} {w : World} {fb gb qb mb : Nat} {g : Option Addr} {N cap : Nat} {good : Bool} {f : Nat → Option Nat} (h : RSt B w fb gb qb mb g N cap good f) (hB : B ≤ w.heap.size) (hN : N ≤ 5000) (p n : Nat) (hp : p ≤ 5000) (hn : n ≤ 1000) :
    Calls Tryd.prog 31 #[.int .i64 p, .int .i64 n, .pointer (some ⟨fb, 0, none⟩), .pointer (some ⟨gb, 0, none⟩), .pointer (some ⟨qb, 0, none⟩)] w fun e w' => RCome B w fb gb qb mb g N cap good f p n e w' := by
  have fc := h.fc
  have qc := h.qc
  obtain ⟨t, hg⟩ := h.gc
  have gc : w.cell? ⟨gb, 0, none⟩ = some (.bool good) := hcell hg 0
  have gf : w.frozen? ⟨gb, 0, none⟩ = false := hfroz hg 0
  have HBAD := hide h.bad
  have HGB := hide h.b1
  by_cases h1 : N ≤ p ∨ 200 < n
  · have HC : Hid (comeP N f p n = none) := by
      show comeP N f p n = none
      unfold comeP; rw [if_pos h1]
    clear h hg
    by_cases h2 : N ≤ p
    · have d1 : decide ((N : Int) ≤ (p : Int)) = true := by simp; omega
      clear h1
      go_enter Tryd.func31, Tryd.ntmps31
      go_wp2_with fail
      go_ret
      exact ⟨(Below.refl _ _).setCell (p := ⟨gb, 0, none⟩) (unhide HGB) _, Or.inl ⟨unhide HC, rfl, unhide HBAD⟩⟩
    · have d1 : decide ((N : Int) ≤ (p : Int)) = false := by simp; omega
      have d2 : decide ((200 : Int) < (n : Int)) = true := by simp; omega
      clear h1
      go_enter Tryd.func31, Tryd.ntmps31
      go_wp2_with fail
      go_ret
      exact ⟨(Below.refl _ _).setCell (p := ⟨gb, 0, none⟩) (unhide HGB) _, Or.inl ⟨unhide HC, rfl, unhide HBAD⟩⟩
  · have hpN : p < N := by omega
    have d1 : decide ((N : Int) ≤ (p : Int)) = false := by simp; omega
    have d2 : decide ((200 : Int) < (n : Int)) = false := by simp; omega
    obtain ⟨l1, l2⟩ := h.mc.look (p := p) (by omega)
    cases hf : f p with
    | some k =>
      have hrun := l1 k hf
      have HH := hide h
      have HC : Hid (comeP N f p n = if k = n then some (f, false) else none) := by
        show comeP N f p n = _
        unfold comeP; rw [if_neg h1, hf]
      clear h hg h1 hf l1 l2
      by_cases hk : k = n
      · have b3 : ((k : Int) != (n : Int)) = false := by rw [bne_eq_false_iff_eq]; omega
        have HK := hide hk
        clear hk
        go_enter Tryd.func31, Tryd.ntmps31
        go_wp2_with fail
        go_ret
        exact ⟨Below.refl _ _, Or.inr (Or.inl ⟨by rw [unhide HC, if_pos (unhide HK)], rfl, unhide HH⟩)⟩
      · have b3 : ((k : Int) != (n : Int)) = true := by rw [bne_iff_ne]; omega
        have HK := hide hk
        clear hk
        go_enter Tryd.func31, Tryd.ntmps31
        go_wp2_with fail
        go_ret
        exact ⟨(Below.refl _ _).setCell (p := ⟨gb, 0, none⟩) (unhide HGB) _, Or.inl ⟨by rw [unhide HC, if_neg (unhide HK)], rfl, unhide HBAD⟩⟩
    | none =>
      obtain ⟨c, hrun⟩ := l2 hf
      obtain ⟨w', hrun2, hm, hgr⟩ := h.mc.put (p := p) (k := n) (by omega) (by omega) (by omega)
      have HP := hide (h.put hf hpN hm hgr)
      have HMB := hide h.b2
      have HGR := hide hgr
      have HF := hide hf
      have HC : Hid (comeP N f p n = some (upd f p n, true)) := by
        show comeP N f p n = _
        unfold comeP; rw [if_neg h1, hf]
      clear h hg h1 hf l1 l2 hm hgr
      go_enter Tryd.func31, Tryd.ntmps31
      go_wp2_with fail
      go_ret
      exact ⟨(Below.refl _ _).grown (unhide HGR) hB (fun k hk => by cases hk; exact unhide HMB), Or.inr (Or.inr ⟨unhide HC, unhide HF, rfl, unhide HP⟩)⟩
end Go.Proofs.YtpfhnmgfcmkidaaDoor
