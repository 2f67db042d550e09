/-
  Bytes are read: the reader's memory, and one byte.
  Numbers are read.
  Numbers are read: the loop.
  How many, truths and texts are read.
-/
import Derived.Test.YtkafldkhmkdafaaGreatDoorM16
import Derived.Laws.BitsLemmas
import Derived.Laws.BytesArg
namespace Go.Proofs.YtkafldkhmkdafaaGreatDoor
open Go.RowKit

/-- The reader at block r: what is left to read, and whether something is wrong. -/
structure RdAt (w : World) (r : Nat) (l : List Int) (wr : Bool) : Prop where
  blk : ∃ g cap t, w.heap[r]? = some (.cells #[.slice g l.length cap, .bool wr] t (0, 0)) ∧ l.length ≤ cap ∧ ∀ i, i < l.length → ∃ b o, g = some ⟨b, o, none⟩ ∧ b < r ∧ w.cell? ⟨b, o + i, none⟩ = some (.int .u8 (l.getD i 0))
  byte : ∀ x ∈ l, 0 ≤ x ∧ x < 256
  len : l.length ≤ 110000
theorem RdAt.lt {w : World} {r : Nat} {l : List Int} {wr : Bool} (h : RdAt w r l wr) : r < w.heap.size := by
  obtain ⟨g, cap, t, h1, _⟩ := h.blk
  exact hlt h1
theorem RdAt.keep {w w' : World} {r : Nat} {l : List Int} {wr : Bool} (h : RdAt w r l wr) (hb : Below w.heap.size w w') : RdAt w' r l wr := by
  obtain ⟨g, cap, t, h1, h2, h3⟩ := h.blk
  refine ⟨⟨g, cap, t, (hb.block r (hlt h1)).trans h1, h2, fun i hi => ?_⟩, h.byte, h.len⟩
  obtain ⟨b, o, e, hr, hc⟩ := h3 i hi
  exact ⟨b, o, e, hr, cellk hb hc (cell_lt hc)⟩
/-- Its flag is set. -/
theorem RdAt.bad {w : World} {r : Nat} {l : List Int} {wr : Bool} (h : RdAt w r l wr) : RdAt (w.setCell ⟨r, 1, none⟩ (.bool true)) r l true := by
  obtain ⟨g, cap, t, h1, h2, h3⟩ := h.blk
  refine ⟨⟨g, cap, t, by rw [hset h1]; rfl, h2, fun i hi => ?_⟩, h.byte, h.len⟩
  obtain ⟨b, o, e, hr, hc⟩ := h3 i hi
  exact ⟨b, o, e, hr, (World.cell?_of_block (hother _ (by show b ≠ r; omega))).trans hc⟩
/-- Some bytes were taken. -/
theorem RdAt.skip {w : World} {r : Nat} {l : List Int} {wr : Bool} (h : RdAt w r l wr) {n : Nat} (hn : n ≤ l.length) {g : Option Addr} {cap : Nat} (h0 : w.cell? ⟨r, 0, none⟩ = some (.slice g l.length cap)) :
    RdAt (w.setCell ⟨r, 0, none⟩ (.slice (if cap = n then g else g.map (·.add n)) (l.length - n) (cap - n))) r (l.drop n) wr := by
  obtain ⟨g', cap', t, h1, h2, h3⟩ := h.blk
  have e := (hcell h1 0).symm.trans h0
  have e' : g' = g ∧ cap' = cap := by simpa using e
  obtain ⟨rfl, rfl⟩ := e'
  refine ⟨⟨if cap' = n then g' else g'.map (·.add n), cap' - n, t, by rw [hset h1, List.length_drop]; rfl, by rw [List.length_drop]; omega, fun i hi => ?_⟩, fun x hx => h.byte x (List.mem_of_mem_drop hx), by have := h.len; rw [List.length_drop]; omega⟩
  rw [List.length_drop] at hi
  obtain ⟨b, o, e, hr, hc⟩ := h3 (n + i) (by omega)
  subst e
  refine ⟨b, o + n, by rw [if_neg (by omega)]; simp [Addr.add], hr, ?_⟩
  rw [World.cell?_of_block (hother _ (by omega : b ≠ r)), Nat.add_assoc, hc]
  simp [List.getD]

/-- What a byte that is taken is. -/
def NextPost (r : Nat) (l : List Int) (wr : Bool) (w : World) (e : Ending) (w' : World) : Prop :=
  ∃ b l' wr', e = .returned (.int .u8 b) ∧ 0 ≤ b ∧ b < 256 ∧ RdAt w' r l' wr' ∧ Ext r w w' ∧ l'.length ≤ l.length ∧ Tel (fun _ => True) (fun b => [b]) wr wr' l b l'

set_option maxHeartbeats 1000000 in
theorem next_any {w : World} {r : Nat} {l : List Int} {wr : Bool} (h : RdAt w r l wr) :
    Calls Tryz.prog 41 #[.pointer (some ⟨r, 0, none⟩)] w fun e w' => NextPost r l wr w e w' := by
  have H := hide h
  obtain ⟨g, cap, t, h1, h2, h3⟩ := h.blk
  have c0 : w.cell? ⟨r, 0, none⟩ = some (.slice g l.length cap) := hcell h1 0
  have c1 : w.cell? ⟨r, 1, none⟩ = some (.bool wr) := hcell h1 1
  have f0 := hfroz h1 0
  have f1 := hfroz h1 1
  clear h h1
  cases l with
  | nil =>
    simp only [List.length_nil] at c0
    clear h3
    go_enter Tryz.func41, Tryz.ntmps41
    go_wp2_with fail
    go_ret
    exact ⟨0, [], true, rfl, by omega, by omega, (unhide H).bad, (Ext.refl _ _).setCell 1 _, Nat.le_refl _, (fun q => by cases q), fun _ y l0 _ e => by simp at e⟩
  | cons x l =>
    obtain ⟨b, o, rfl, hr, hc⟩ := h3 0 (by simp)
    simp only [List.length_cons] at c0 h2
    have hb := (unhide H).byte x (by simp)
    have hl := (unhide H).len
    simp only [List.length_cons] at hl
    simp only [Nat.add_zero, List.getD_cons_zero] at hc
    have HS := hide ((unhide H).skip (n := 1) (by simp) c0)
    clear h3
    by_cases hcap : cap = 1
    · subst hcap
      obtain rfl : l = [] := List.length_eq_zero_iff.1 (by omega)
      rw [if_pos rfl] at HS
      simp only [List.length_nil] at c0 hl h2
      go_enter Tryz.func41, Tryz.ntmps41
      go_wp2_with fail
      go_ret
      exact ⟨x, [], wr, rfl, hb.1, hb.2, unhide HS, (Ext.refl _ _).setCell 0 _, by simp, fun q => ⟨q, rfl⟩, fun q _ _ _ _ => q⟩
    · rw [if_neg hcap] at HS
      go_enter Tryz.func41, Tryz.ntmps41
      go_wp2_with fail
      go_ret
      exact ⟨x, l, wr, rfl, hb.1, hb.2, unhide HS, (Ext.refl _ _).setCell 0 _, by simp, fun q => ⟨q, rfl⟩, fun q _ _ _ _ => q⟩
end Go.Proofs.YtkafldkhmkdafaaGreatDoor

namespace Go.Proofs.YtkafldkhmkdafaaGreatDoor
open Go.RowKit

theorem wrapU64 (n : Int) (h0 : 0 ≤ n) (h1 : n < 2 ^ 64) : IntKind.u64.wrap n = n := by
  have e : IntKind.u64.wrap n = n % 18446744073709551616 := by simp [IntKind.wrap, IntKind.bits, IntKind.signed]
  rw [e]; omega
theorem mask127 {c : Int} (h0 : 0 ≤ c) (h1 : c < 256) : bits .and .u8 c 127 = c % 128 := bits_mask .u8 8 (by decide) wraps_u8 7 (by decide) c h0 (by omega)
theorem orLow {k : Nat} {u : Nat} (hu : u < 128 ^ k) (hk : k ≤ 9) {b : Int} (h0 : 0 ≤ b) (h1 : b < 128) (h9 : k = 9 → b ≤ 1) : bits .or .u64 (u : Int) (IntKind.u64.wrap (b * 2 ^ (7 * k))) = (u : Int) + 128 ^ k * b := by
  obtain ⟨n, rfl⟩ := Int.eq_ofNat_of_zero_le h0
  have hp : (128 : Nat) ^ k = 2 ^ (7 * k) := by rw [Nat.pow_mul]
  have hpi : (128 : Int) ^ k = 2 ^ (7 * k) := by exact_mod_cast hp
  have hlt : n * 2 ^ (7 * k) < 2 ^ 64 := by
    by_cases e : k = 9
    · subst e
      have : n ≤ 1 := by have := h9 rfl; omega
      have : n * 2 ^ (7 * 9) ≤ 1 * 2 ^ (7 * 9) := Nat.mul_le_mul_right _ this
      omega
    · have h2 : n * 2 ^ (7 * k) < 2 ^ 7 * 2 ^ (7 * k) := Nat.mul_lt_mul_of_pos_right (by omega) (Nat.two_pow_pos _)
      rw [← Nat.pow_add] at h2
      exact Nat.lt_of_lt_of_le h2 (Nat.pow_le_pow_right (by decide) (by omega))
  have hu64 : u < 2 ^ 64 := by rw [hp] at hu; exact Nat.lt_of_lt_of_le hu (Nat.pow_le_pow_right (by decide) (by omega))
  have e1 : IntKind.u64.wrap ((n : Int) * 2 ^ (7 * k)) = ((n * 2 ^ (7 * k) : Nat) : Int) := by
    have e2 : (n : Int) * 2 ^ (7 * k) = ((n * 2 ^ (7 * k) : Nat) : Int) := by simp
    rw [e2]
    exact wrapU64 _ (Int.natCast_nonneg _) (by exact_mod_cast hlt)
  have e3 := bits_join .u64 64 (by decide) wrapU64 (7 * k) ((n * 2 ^ (7 * k) : Nat) : Int) (u : Int) (Int.natCast_nonneg _) (by exact_mod_cast Nat.mul_mod_left _ _) (by exact_mod_cast hlt) (Int.natCast_nonneg _) (by rw [hp] at hu; exact_mod_cast hu) (by exact_mod_cast hu64)
  rw [e1]
  have hc := (bits_nat .u64 64 (by decide) wrapU64 u (n * 2 ^ (7 * k)) hu64 hlt).2
  have hd := (bits_nat .u64 64 (by decide) wrapU64 (n * 2 ^ (7 * k)) u hlt hu64).2
  rw [hc, Nat.or_comm, ← hd, e3, hpi]
  simp
  rw [Int.mul_comm]
  omega
/-- A number was read. -/
def NumPost (r : Nat) (l : List Int) (wr : Bool) (w : World) (e : Ending) (w' : World) : Prop :=
  ∃ n l' wr', e = .returned (.int .i64 n) ∧ I64 n ∧ RdAt w' r l' wr' ∧ Ext r w w' ∧ l'.length ≤ l.length ∧ Tel I64 encN wr wr' l n l'

theorem notI {n : Nat} (h : n < 9223372036854775808) : bits .xor .i64 (-1) (n : Int) = -(n : Int) - 1 := by
  have e1 : (BitVec.ofInt 64 (-1)) = BitVec.allOnes 64 := by decide
  have e3 : BitVec.toNat (BitVec.allOnes 64 ^^^ BitVec.ofInt 64 (n : Int)) = 18446744073709551615 - n := by
    rw [BitVec.allOnes_xor, BitVec.toNat_not, BitVec.ofInt_natCast, BitVec.toNat_ofNat, Nat.mod_eq_of_lt (by omega)]
  show IntKind.i64.wrap ((BitVec.ofInt 64 (-1) ^^^ BitVec.ofInt 64 (n : Int)).toNat : Int) = _
  rw [e1, e3, IntKind.wrap_i64]
  omega
theorem ri {a b : Int} (h : a = b) : Ending.returned (.int .i64 a) = .returned (.int .i64 b) := by rw [h]

theorem signed_any (u : Int) (h0 : 0 ≤ u) (h1 : u < 18446744073709551616) (w : World) : Calls Tryz.prog 48 #[.int .u64 u] w fun e w' => e = .returned (.int .i64 (unzig u.toNat)) ∧ w' = w := by
  by_cases hu : u % 2 = 1
  · have b1 : (u % 2 == 1) = true := by simpa using hu
    have hv : bits BinOp.xor IntKind.i64 (-1) (u / 2) = unzig u.toNat := by
      obtain ⟨n, rfl⟩ := Int.eq_ofNat_of_zero_le h0
      have := notI (n := n / 2) (by omega)
      rw [show ((n / 2 : Nat) : Int) = (n : Int) / 2 by simp] at this
      rw [this]
      unfold unzig
      rw [if_pos (by simp; omega)]
      simp
    have HV := hide hv
    clear hv hu
    go_enter Tryz.func48, Tryz.ntmps48
    go_wp2_with fail
    go_ret
    exact ⟨ri (unhide HV), rfl⟩
  · have b1 : (u % 2 == 1) = false := by simpa using hu
    have hv : u / 2 = unzig u.toNat := by
      obtain ⟨n, rfl⟩ := Int.eq_ofNat_of_zero_le h0
      unfold unzig
      rw [if_neg (by simp; omega)]
      simp
    have HV := hide hv
    clear hv hu
    go_enter Tryz.func48, Tryz.ntmps48
    go_wp2_with fail
    go_ret
    exact ⟨ri (unhide HV), rfl⟩
end Go.Proofs.YtkafldkhmkdafaaGreatDoor

namespace Go.Proofs.YtkafldkhmkdafaaGreatDoor
open Go.RowKit

/-- What stands behind k bytes of a number. -/
def NumCpl (l : List Int) (wr : Bool) (k : Nat) (wr1 : Bool) (l1 : List Int) : Prop := wr = false → ∀ n l0, I64 n → l = encN n ++ l0 → wr1 = false ∧ l1 = encU (zig n / 128 ^ k) ++ l0 ∧ (k = 0 ∨ 0 < zig n / 128 ^ k)
theorem zig_top {n : Int} (h : I64 n) : zig n < 18446744073709551616 := zig_lt h.1 h.2
theorem NumCpl.step {l l1 l2 : List Int} {wr wr1 wr2 : Bool} {k : Nat} {b : Int} (h : NumCpl l wr k wr1 l1) (hb : 127 < b) (h2 : Tel (fun _ => True) (fun b => [b]) wr1 wr2 l1 b l2) : NumCpl l wr (k + 1) wr2 l2 := fun q n l0 hn e => by
  obtain ⟨q1, q2, q3⟩ := h q n l0 hn e
  by_cases hz : 127 < zig n / 128 ^ k
  · rw [encU_great hz] at q2
    have q4 := h2.cpl q1 _ _ trivial (by rw [q2]; rfl)
    obtain ⟨_, q5⟩ := h2.snd q4
    rw [q2] at q5
    simp only [List.cons_append, List.nil_append, List.cons.injEq] at q5
    refine ⟨q4, ?_, Or.inr ?_⟩
    · rw [← q5.2, Nat.div_div_eq_div_mul, ← Nat.pow_succ]
    · rw [Nat.pow_succ, ← Nat.div_div_eq_div_mul]
      omega
  · rw [encU_small (by omega)] at q2
    have q4 := h2.cpl q1 _ _ trivial (by rw [q2])
    obtain ⟨_, q5⟩ := h2.snd q4
    rw [q2] at q5
    simp only [List.cons_append, List.nil_append, List.cons.injEq] at q5
    omega
theorem NumCpl.last {l l1 l2 : List Int} {wr wr1 wr2 : Bool} {k : Nat} {b : Int} (h : NumCpl l wr k wr1 l1) (hb : ¬ 127 < b) (h2 : Tel (fun _ => True) (fun b => [b]) wr1 wr2 l1 b l2) : wr = false → ∀ n l0, I64 n → l = encN n ++ l0 → wr2 = false ∧ b = ((zig n / 128 ^ k : Nat) : Int) ∧ (k = 0 ∨ 0 < zig n / 128 ^ k) := fun q n l0 hn e => by
  obtain ⟨q1, q2, q3⟩ := h q n l0 hn e
  by_cases hz : 127 < zig n / 128 ^ k
  · rw [encU_great hz] at q2
    have q4 := h2.cpl q1 _ _ trivial (by rw [q2]; rfl)
    obtain ⟨_, q5⟩ := h2.snd q4
    rw [q2] at q5
    simp only [List.cons_append, List.nil_append, List.cons.injEq] at q5
    omega
  · rw [encU_small (by omega)] at q2
    have q4 := h2.cpl q1 _ _ trivial (by rw [q2])
    obtain ⟨_, q5⟩ := h2.snd q4
    rw [q2] at q5
    simp only [List.cons_append, List.nil_append, List.cons.injEq] at q5
    exact ⟨q4, by omega, q3⟩
theorem NumCpl.ten {l l1 : List Int} {wr wr1 : Bool} (h : NumCpl l wr 10 wr1 l1) : wr = false → ∀ n l0, I64 n → l = encN n ++ l0 → False := fun q n l0 hn e => by
  obtain ⟨_, _, q3⟩ := h q n l0 hn e
  have := zig_top hn
  rcases q3 with q3 | q3
  · omega
  · have : zig n / 128 ^ 10 = 0 := Nat.div_eq_of_lt (by omega)
    omega
def NumInv (r : Nat) (l : List Int) (wr : Bool) (w : World) (k : Nat) (U : Int) (w1 : World) : Prop :=
  ∃ l1 wr1, RdAt w1 r l1 wr1 ∧ Ext r w w1 ∧ l1.length ≤ l.length ∧ (wr1 = false → k ≤ 9 → wr = false ∧ ∃ (un : Nat) (pre : List Int), U = un ∧ Part k un pre ∧ l = pre ++ l1 ∧ (k = 0 → un = 0 ∧ pre = [])) ∧ NumCpl l wr k wr1 l1

theorem orIn (U x : Int) : 0 ≤ bits .or .u64 U x ∧ bits .or .u64 U x < 18446744073709551616 := by
  have e : ∀ n : Int, 0 ≤ IntKind.u64.wrap n ∧ IntKind.u64.wrap n < 18446744073709551616 := fun n => by
    have e : IntKind.u64.wrap n = n % 18446744073709551616 := by simp [IntKind.wrap, IntKind.bits, IntKind.signed]
    rw [e]; omega
  unfold bits
  exact e _

/-- A byte that goes on. -/
theorem NumInv.step {r : Nat} {l : List Int} {wr : Bool} {w w1 w2 : World} {k : Nat} {U b : Int} {l1 l2 : List Int} {wr1 wr2 : Bool}
    (h1 : wr1 = false → k ≤ 9 → wr = false ∧ ∃ (un : Nat) (pre : List Int), U = un ∧ Part k un pre ∧ l = pre ++ l1 ∧ (k = 0 → un = 0 ∧ pre = [])) (he : Ext r w w1) (hl : l1.length ≤ l.length)
    (hb0 : 128 ≤ b) (hb1 : b < 256) (h2 : RdAt w2 r l2 wr2) (he2 : Ext r w1 w2) (hl2 : l2.length ≤ l1.length) (h3 : Tel (fun _ => True) (fun b => [b]) wr1 wr2 l1 b l2) (hc : NumCpl l wr k wr1 l1) :
    NumInv r l wr w (k + 1) (bits .or .u64 U (IntKind.u64.wrap (b % 128 * 2 ^ (7 * k)))) w2 := by
  refine ⟨l2, wr2, h2, he.trans he2, Nat.le_trans hl2 hl, fun q hk8 => ?_, hc.step (by omega) h3⟩
  obtain ⟨q1, q2⟩ := h3.snd q
  obtain ⟨q3, un, pre, rfl, hp, q4, q5⟩ := h1 q1 (by omega)
  obtain ⟨n, rfl⟩ := Int.eq_ofNat_of_zero_le (show 0 ≤ b by omega)
  refine ⟨q3, un + 128 ^ k * (n - 128), pre ++ [(n : Int)], ?_, hp.succ (by omega) (by omega), by rw [q4, q2]; simp, fun q => by omega⟩
  rw [show (n : Int) % 128 = ((n - 128 : Nat) : Int) by omega, orLow hp.lt (by omega) (by omega) (by omega) (by omega)]
  simp
/-- The last byte. -/
theorem NumInv.last {r : Nat} {l : List Int} {wr : Bool} {w w1 w2 : World} {k : Nat} {U b : Int} {l1 l2 : List Int} {wr1 wr2 : Bool} (hk : k ≤ 9)
    (h1 : wr1 = false → k ≤ 9 → wr = false ∧ ∃ (un : Nat) (pre : List Int), U = un ∧ Part k un pre ∧ l = pre ++ l1 ∧ (k = 0 → un = 0 ∧ pre = [])) (he : Ext r w w1) (hl : l1.length ≤ l.length)
    (hb0 : 0 ≤ b) (hb1 : b ≤ 127) (h2 : RdAt w2 r l2 wr2) (he2 : Ext r w1 w2) (hl2 : l2.length ≤ l1.length) (h3 : Tel (fun _ => True) (fun b => [b]) wr1 wr2 l1 b l2) (hc : NumCpl l wr k wr1 l1) (hz : b ≠ 0 ∨ k = 0) (h9 : k = 9 → b ≤ 1) :
    NumPost r l wr w (.returned (.int .i64 (unzig (bits .or .u64 U (IntKind.u64.wrap (b % 128 * 2 ^ (7 * k)))).toNat))) w2 := by
  have hin := orIn U (IntKind.u64.wrap (b % 128 * 2 ^ (7 * k)))
  refine ⟨_, l2, wr2, rfl, unzig_in (by omega), h2, he.trans he2, Nat.le_trans hl2 hl, fun q => ?_, fun q n l0 hn e => (hc.last (by omega) h3 q n l0 hn e).1⟩
  obtain ⟨q1, q2⟩ := h3.snd q
  obtain ⟨q3, un, pre, rfl, hp, q4, q5⟩ := h1 q1 (by omega)
  obtain ⟨n, rfl⟩ := Int.eq_ofNat_of_zero_le hb0
  refine ⟨q3, ?_⟩
  rw [show (n : Int) % 128 = (n : Int) by omega, orLow hp.lt hk (by omega) (by omega) h9, encN_unzig]
  have e : ((un : Int) + 128 ^ k * (n : Int)).toNat = un + 128 ^ k * n := by
    have : (un : Int) + 128 ^ k * (n : Int) = ((un + 128 ^ k * n : Nat) : Int) := by simp
    rw [this, Int.toNat_natCast]
  rw [e, hp.last (by omega) (by omega) q5, q4, q2]
  simp
theorem NumPost.bad {r : Nat} {l : List Int} {wr : Bool} {w w1 : World} {n : Int} {l1 : List Int} {wr1 : Bool} (h2 : RdAt w1 r l1 wr1) (he : Ext r w w1) (hl : l1.length ≤ l.length) (hn : I64 n) (hc : wr = false → ∀ n l0, I64 n → l = encN n ++ l0 → False) :
    NumPost r l wr w (.returned (.int .i64 n)) (w1.setCell ⟨r, 1, none⟩ (.bool true)) :=
  ⟨n, l1, true, rfl, hn, h2.bad, he.setCell 1 _, hl, (fun q => by cases q), fun q n l0 hn e => (hc q n l0 hn e).elim⟩

set_option maxRecDepth 100000 in
set_option maxHeartbeats 4000000 in
theorem number_any {w : World} {r : Nat} {l : List Int} {wb : Bool} (h : RdAt w r l wb) :
    Calls Tryz.prog 26 #[.pointer (some ⟨r, 0, none⟩)] w fun e w' => NumPost r l wb w e w' := by
  have H := hide h
  clear h
  go_enter Tryz.func26, Tryz.ntmps26
  go_wp2_with fail
  go_loopg [3, 4] 10 (fun gg u i w1 => ∃ (k : Nat) (U : Int), k ≤ 10 ∧ gg = 10 - k ∧ i = .int .i64 (7 * k : Nat) ∧ u = .int .u64 U ∧ 0 ≤ U ∧ U < 18446744073709551616 ∧ Hid (NumInv r l wb w k U w1))
  case atStart => exact ⟨0, 0, by omega, rfl, rfl, rfl, by omega, by omega, l, wb, unhide H, Ext.refl _ _, Nat.le_refl _, (fun q _ => ⟨q, 0, [], rfl, Part.zero, rfl, fun _ => ⟨rfl, rfl⟩⟩), fun q n l0 _ e => ⟨q, by rw [e, encN]; simp, Or.inl rfl⟩⟩
  case round =>
    obtain ⟨k, U, hk, rfl, rfl, rfl, hU0, hU1, HI⟩ := hrel
    obtain ⟨l1, wr1, hr1, he1, hl1, hw1, hc1⟩ := unhide HI
    have HC := hide hc1
    have HR := hide hr1
    have HE := hide he1
    have HL := hide hl1
    have HW := hide hw1
    clear hr1 he1 hl1 hw1 hc1 HI
    by_cases hk10 : k = 10
    · subst hk10
      obtain ⟨g1, cap1, t1, hb1, _⟩ := (unhide HR).blk
      have c1 := hcell hb1 1
      have f1 := hfroz hb1 1
      clear hb1
      go_wp2_with fail
      go_ret
      exact NumPost.bad (unhide HR) (unhide HE) (unhide HL) ⟨by decide, by decide⟩ (unhide HC).ten
    · have hk9 : k ≤ 9 := by omega
      clear hk10 hk
      have hk2 : ((7 * k : Nat) : Int) < 64 := by omega
      go_wp2_with fail
      refine (next_any (unhide HR)).mono ?_
      rintro e w2 ⟨b, l2, wr2, rfl, hb0, hb1, hr2, he2, hl2, hw2⟩
      have HR2 := hide hr2
      have HE2 := hide he2
      have HL2 := hide hl2
      have HW2 := hide hw2
      have hm := mask127 hb0 hb1
      obtain ⟨V, hV⟩ : ∃ V, bits .or .u64 U (IntKind.u64.wrap (b % 128 * 2 ^ (7 * k))) = V := ⟨_, rfl⟩
      have hor := orIn U (IntKind.u64.wrap (b % 128 * 2 ^ (7 * k)))
      rw [hV] at hor
      obtain ⟨hV0, hV1⟩ := hor
      have HV := hide hV
      obtain ⟨g2, cap2, t2, hbk, _⟩ := hr2.blk
      have c2 : w2.cell? ⟨r, 1, none⟩ = some (.bool wr2) := hcell hbk 1
      have f2 := hfroz hbk 1
      clear hr2 he2 hl2 hw2 hbk
      by_cases hb : 127 < b
      · go_wp2_with fail
        go_roundg (10 - (k + 1))
        case measure => omega
        case rel =>
          refine ⟨k + 1, V, by omega, rfl, ?_, rfl, hV0, hV1, ?_⟩
          · rw [show 7 * (k : Int) + 7 = ((7 * (k + 1) : Nat) : Int) by omega]
          · rw [← unhide HV]
            exact NumInv.step (unhide HW) (unhide HE) (unhide HL) (by omega) hb1 (unhide HR2) (unhide HE2) (unhide HL2) (unhide HW2) (unhide HC)
      · have HLS := hide ((unhide HC).last hb (unhide HW2))
        have HB := hide (show ∀ n, I64 n → (b = 0 ∧ 0 < k ∨ 1 < b ∧ k = 9) → NumPost r l wb w (.returned (.int .i64 n)) (w2.setCell ⟨r, 1, none⟩ (.bool true)) from fun n hn hh => NumPost.bad (unhide HR2) ((unhide HE).trans (unhide HE2)) (Nat.le_trans (unhide HL2) (unhide HL)) hn (fun q n l0 hn e => by
          obtain ⟨_, q1, q2⟩ := unhide HLS q n l0 hn e
          have hz := zig_top hn
          rcases hh with ⟨rfl, hh⟩ | ⟨hh, rfl⟩
          · omega
          · omega))
        have HN := hide (show I64 (unzig V.toNat) from unzig_in (by omega))
        by_cases hz : b = 0 ∧ 0 < k
        · have hk0' : (0 : Int) < 7 * (k : Int) := by omega
          have hbz : (b == 0) = true := by simp; omega
          have HZ := hide hz
          clear hz
          go_wp2_with fail
          refine (signed_any _ hV0 hV1 _).mono ?_
          rintro e w' ⟨rfl, rfl⟩
          go_wp2_with fail
          go_ret
          exact unhide HB _ (unhide HN) (Or.inl (unhide HZ))
        · by_cases hn : 1 < b ∧ k = 9
          · have HZ := hide hn
            obtain ⟨hn1, hk'⟩ := hn
            have hbz : (b == 0) = false := by simp; omega
            have h63 : (7 * (k : Int) == 63) = true := by simp; omega
            clear hz hk'
            go_wp2_with fail
            refine (signed_any _ hV0 hV1 _).mono ?_
            rintro e w' ⟨rfl, rfl⟩
            go_wp2_with fail
            go_ret
            exact unhide HB _ (unhide HN) (Or.inr (unhide HZ))
          · have hp := NumInv.last (b := b) hk9 (unhide HW) (unhide HE) (unhide HL) hb0 (by omega) (unhide HR2) (unhide HE2) (unhide HL2) (unhide HW2) (unhide HC) (by omega) (by omega)
            rw [hV] at hp
            have HP := hide hp
            clear hp
            by_cases hk0 : k = 0
            · have hk0' : ¬ (0 : Int) < 7 * (k : Int) := by omega
              have h63 : (7 * (k : Int) == 63) = false := by simp; omega
              clear hz hn hk0
              by_cases hbz0 : b = 0
              · have hbz : (b == 0) = true := by simp; omega
                have hb1' : ¬ 1 < b := by omega
                clear hbz0
                go_wp2_with fail
                refine (signed_any _ hV0 hV1 _).mono ?_
                rintro e w' ⟨rfl, rfl⟩
                go_wp2_with fail
                go_ret
                exact unhide HP
              · have hbz : (b == 0) = false := by simp; omega
                clear hbz0
                by_cases hb1' : 1 < b
                · go_wp2_with fail
                  refine (signed_any _ hV0 hV1 _).mono ?_
                  rintro e w' ⟨rfl, rfl⟩
                  go_wp2_with fail
                  go_ret
                  exact unhide HP
                · go_wp2_with fail
                  refine (signed_any _ hV0 hV1 _).mono ?_
                  rintro e w' ⟨rfl, rfl⟩
                  go_wp2_with fail
                  go_ret
                  exact unhide HP
            · have hbz : (b == 0) = false := by simp; omega
              by_cases hb1' : 1 < b
              · have h63 : (7 * (k : Int) == 63) = false := by simp; omega
                clear hz hn hk0
                go_wp2_with fail
                refine (signed_any _ hV0 hV1 _).mono ?_
                rintro e w' ⟨rfl, rfl⟩
                go_wp2_with fail
                go_ret
                exact unhide HP
              · clear hz hn hk0
                go_wp2_with fail
                refine (signed_any _ hV0 hV1 _).mono ?_
                rintro e w' ⟨rfl, rfl⟩
                go_wp2_with fail
                go_ret
                exact unhide HP
end Go.Proofs.YtkafldkhmkdafaaGreatDoor

namespace Go.Proofs.YtkafldkhmkdafaaGreatDoor
open Go.RowKit

/-- How many: no more than there are bytes. -/
structure TelN (wb wb' : Bool) (l : List Int) (n : Nat) (l' : List Int) : Prop where
  snd : wb' = false → wb = false ∧ l = encN n ++ l'
  cpl : wb = false → ∀ (y : Nat) l0, y ≤ l0.length → l = encN y ++ l0 → wb' = false
theorem TelN.same {wb wb' : Bool} {l l' : List Int} {n : Nat} (h : TelN wb wb' l n l') (hw : wb = false) {y : Nat} {l0 : List Int} (hy : y ≤ l0.length) (e : l = encN y ++ l0) : wb' = false ∧ n = y ∧ l' = l0 := by
  have q := h.cpl hw y l0 hy e
  obtain ⟨_, e2⟩ := h.snd q
  obtain ⟨q1, q2⟩ := encN_pf (ok := fun _ => True) _ _ _ _ trivial trivial (e2.symm.trans e)
  exact ⟨q, by omega, q2⟩
def ManyPost (r : Nat) (l : List Int) (wb : Bool) (w : World) (e : Ending) (w' : World) : Prop :=
  ∃ (n : Nat) (l' : List Int) (wb' : Bool), e = .returned (.int .i64 n) ∧ n ≤ l'.length ∧ RdAt w' r l' wb' ∧ Ext r w w' ∧ l'.length ≤ l.length ∧ TelN wb wb' l n l'
def TruthPost (r : Nat) (l : List Int) (wb : Bool) (w : World) (e : Ending) (w' : World) : Prop :=
  ∃ (b : Bool) (l' : List Int) (wb' : Bool), e = .returned (.bool b) ∧ RdAt w' r l' wb' ∧ Ext r w w' ∧ l'.length ≤ l.length ∧ Tel (fun _ => True) encB wb wb' l b l'
def TextPost (r : Nat) (l : List Int) (wb : Bool) (w : World) (e : Ending) (w' : World) : Prop :=
  ∃ (s : ByteArray) (l' : List Int) (wb' : Bool), e = .returned (.string s) ∧ RdAt w' r l' wb' ∧ Ext r w w' ∧ l'.length ≤ l.length ∧ Tel (fun _ => True) encT wb wb' l s l'

set_option maxRecDepth 100000 in
set_option maxHeartbeats 4000000 in
theorem many_any {w : World} {r : Nat} {l : List Int} {wb : Bool} (h : RdAt w r l wb) :
    Calls Tryz.prog 53 #[.pointer (some ⟨r, 0, none⟩)] w fun e w' => ManyPost r l wb w e w' := by
  have H := hide h
  clear h
  go_enter Tryz.func53, Tryz.ntmps53
  go_wp2_with fail
  refine (number_any (unhide H)).mono ?_
  rintro e w1 ⟨n, l1, wb1, rfl, hn, hr1, he1, hl1, hw1⟩
  have HR := hide hr1
  have HE := hide he1
  have HL := hide hl1
  have HW := hide hw1
  obtain ⟨g, cap, t, hbk, _⟩ := hr1.blk
  have c0 : w1.cell? ⟨r, 0, none⟩ = some (.slice g l1.length cap) := hcell hbk 0
  have c1 : w1.cell? ⟨r, 1, none⟩ = some (.bool wb1) := hcell hbk 1
  have f1 := hfroz hbk 1
  clear hr1 he1 hl1 hw1 hbk
  have hlen := (unhide H).len
  have HSM := hide (show wb = false → ∀ (y : Nat) l0, y ≤ l0.length → l = encN y ++ l0 → wb1 = false ∧ n = y ∧ l1 = l0 from fun q y l0 hy e => (unhide HW).same encN_pf hn q (show I64 (y : Int) from by
    have : l.length = (encN y).length + l0.length := by rw [e, List.length_append]
    unfold I64
    omega) e)
  have HB := hide (show (n < 0 ∨ (l1.length : Int) < n) → ManyPost r l wb w (.returned (.int .i64 0)) (w1.setCell ⟨r, 1, none⟩ (.bool true)) from fun hh => ⟨0, l1, true, rfl, Nat.zero_le _, (unhide HR).bad, (unhide HE).setCell 1 _, unhide HL, (fun q => by cases q), fun q y l0 hy e => by
    obtain ⟨_, rfl, rfl⟩ := unhide HSM q y l0 hy e
    omega⟩)
  clear hlen
  by_cases h0 : n < 0
  · go_wp2_with fail
    go_ret
    exact unhide HB (Or.inl h0)
  · obtain ⟨k, rfl⟩ := Int.eq_ofNat_of_zero_le (show 0 ≤ n by omega)
    by_cases h1 : (l1.length : Int) < k
    · have HH1 := hide h1
      go_wp2_with fail
      go_ret
      exact unhide HB (Or.inr (unhide HH1))
    · go_wp2_with fail
      go_ret
      exact ⟨k, l1, wb1, rfl, by omega, unhide HR, unhide HE, unhide HL, (unhide HW).snd, fun q y l0 hy e => (unhide HSM q y l0 hy e).1⟩

set_option maxRecDepth 100000 in
set_option maxHeartbeats 4000000 in
theorem truth_any {w : World} {r : Nat} {l : List Int} {wb : Bool} (h : RdAt w r l wb) :
    Calls Tryz.prog 54 #[.pointer (some ⟨r, 0, none⟩)] w fun e w' => TruthPost r l wb w e w' := by
  have H := hide h
  clear h
  go_enter Tryz.func54, Tryz.ntmps54
  go_wp2_with fail
  refine (number_any (unhide H)).mono ?_
  rintro e w1 ⟨n, l1, wb1, rfl, hn, hr1, he1, hl1, hw1⟩
  have HR := hide hr1
  have HE := hide he1
  have HL := hide hl1
  have HW := hide hw1
  obtain ⟨g, cap, t, hbk, _⟩ := hr1.blk
  have c1 : w1.cell? ⟨r, 1, none⟩ = some (.bool wb1) := hcell hbk 1
  have f1 := hfroz hbk 1
  have HSM := hide (show wb = false → ∀ (y : Bool) l0, l = encB y ++ l0 → wb1 = false ∧ n = (if y then 1 else 0) from fun q y l0 e => by
    obtain ⟨q1, q2, _⟩ := (unhide HW).same encN_pf hn q (show I64 (if y then 1 else 0) from by cases y <;> exact ⟨by decide, by decide⟩) e
    exact ⟨q1, q2⟩)
  clear hr1 he1 hl1 hw1 hbk hn
  by_cases h0 : n = 0
  · subst h0
    go_wp2_with fail
    go_ret
    exact ⟨false, l1, wb1, rfl, unhide HR, unhide HE, unhide HL, (unhide HW).snd, fun q y l0 _ e => (unhide HSM q y l0 e).1⟩
  · have b0 : (n == 0) = false := by simpa using h0
    have d0 : (n != 0) = true := by simpa using h0
    by_cases h1 : n = 1
    · subst h1
      go_wp2_with fail
      go_ret
      exact ⟨true, l1, wb1, rfl, unhide HR, unhide HE, unhide HL, (unhide HW).snd, fun q y l0 _ e => (unhide HSM q y l0 e).1⟩
    · have b1 : (n == 1) = false := by simpa using h1
      have d1 : (n != 1) = true := by simpa using h1
      have HN0 := hide h0
      have HN1 := hide h1
      go_wp2_with fail
      go_ret
      exact ⟨false, l1, true, rfl, (unhide HR).bad, (unhide HE).setCell 1 _, unhide HL, (fun q => by cases q), fun q y l0 _ e => by
        obtain ⟨_, e2⟩ := unhide HSM q y l0 e
        cases y
        · exact absurd e2 (unhide HN0)
        · exact absurd e2 (unhide HN1)⟩

theorem bytesL_nums {l : List Int} (h : ∀ x ∈ l, 0 ≤ x ∧ x < 256) : bytesL (strOfNums l) = l := by
  unfold bytesL
  rw [strOfNums_data, List.map_map]
  have : ∀ x ∈ l, ((fun b : UInt8 => (b.toNat : Int)) ∘ fun n : Int => UInt8.ofNat n.toNat) x = x := fun x hx => by
    have := h x hx
    simp
    omega
  rw [List.map_congr_left this, List.map_id']
theorem getD_take {l : List Int} {n i : Nat} (h : i < n) : (l.take n).getD i 0 = l.getD i 0 := by
  simp [List.getD, h]
/-- The text of the next bytes. -/
theorem RdAt.str {w : World} {r : Nat} {l : List Int} {wb : Bool} (h : RdAt w r l wb) {g : Option Addr} {cap n : Nat} (h0 : w.cell? ⟨r, 0, none⟩ = some (.slice g l.length cap)) (hn : n ≤ l.length) :
    (convert 39 9 (.slice g n cap)).run Tryz.prog w = .ok (.string (strOfNums (l.take n))) w := by
  obtain ⟨g', cap', t, h1, h2, h3⟩ := h.blk
  have e := (hcell h1 0).symm.trans h0
  have e' : g' = g ∧ cap' = cap := by simpa using e
  obtain ⟨rfl, rfl⟩ := e'
  cases g' with
  | none =>
    have : l.length = 0 := by
      rcases Nat.eq_zero_or_pos l.length with q | q
      · exact q
      · obtain ⟨_, _, e, _⟩ := h3 0 q
        cases e
    have hn0 : n = 0 := by omega
    subst hn0
    rw [run_convert_bytes_nil w 39 5 Tryz.underlying39 Tryz.underlying5 0 cap' 9 Tryz.underlying9]
    rfl
  | some a =>
    by_cases hp : 0 < n
    · obtain ⟨b, o, e, _⟩ := h3 0 (by omega)
      obtain rfl := Option.some.inj e
      refine run_convert_bytes_arg w 39 5 Tryz.underlying39 Tryz.underlying5 b o n cap' (l.take n) (by simp; omega) (fun i hi => ?_) 9 Tryz.underlying9
      obtain ⟨b', o', e', _, hc⟩ := h3 i (by omega)
      cases e'
      rw [hc, getD_take hi]
    · have hn0 : n = 0 := by omega
      subst hn0
      have key : ∀ a : Addr, (convert 39 9 (.slice (some a) 0 cap')).run Tryz.prog w = .ok (.string (strOfNums [])) w := fun a => by
        rw [run_convert_bytes_string w 39 9 5 _ 0 cap' Tryz.underlying39 Tryz.underlying5 Tryz.underlying9, run_bytesToString w a 0 cap' [] (by simp [loadCells, loadCellsFrom])]
        rfl
      exact key a

set_option maxRecDepth 100000 in
set_option maxHeartbeats 4000000 in
theorem rtext_any {w : World} {r : Nat} {l : List Int} {wb : Bool} (h : RdAt w r l wb) :
    Calls Tryz.prog 55 #[.pointer (some ⟨r, 0, none⟩)] w fun e w' => TextPost r l wb w e w' := by
  have H := hide h
  clear h
  go_enter Tryz.func55, Tryz.ntmps55
  go_wp2_with fail
  refine (many_any (unhide H)).mono ?_
  rintro e w1 ⟨n, l1, wb1, rfl, hn, hr1, he1, hl1, hw1⟩
  have HR := hide hr1
  have HE := hide he1
  have HL := hide hl1
  have HW := hide hw1
  obtain ⟨g, cap, t, hbk, hc, _⟩ := hr1.blk
  have c0 : w1.cell? ⟨r, 0, none⟩ = some (.slice g l1.length cap) := hcell hbk 0
  have f0 := hfroz hbk 0
  have HS := hide (hr1.skip hn c0)
  have ks := hr1.str c0 hn
  have h63 := hr1.len
  clear hr1 he1 hl1 hw1 hbk
  have HT := hide (show bytesL (strOfNums (l1.take n)) = l1.take n from bytesL_nums fun x hx => (unhide HR).byte x (List.mem_of_mem_take hx))
  have HZ := hide (show (strOfNums (l1.take n)).size = n by rw [strOfNums_size]; simp; omega)
  have fin : ∀ w2, RdAt w2 r (l1.drop n) wb1 → Ext r w1 w2 → TextPost r l wb w (.returned (.string (strOfNums (l1.take n)))) w2 := fun w2 q1 q2 =>
    ⟨_, l1.drop n, wb1, rfl, q1, (unhide HE).trans q2, by have := unhide HL; simp; omega, fun q => ⟨((unhide HW).snd q).1, by rw [((unhide HW).snd q).2, encT, unhide HZ, unhide HT, List.append_assoc, List.take_append_drop]⟩, fun q y l0 _ e => by
      unfold encT at e
      rw [List.append_assoc] at e
      exact ((unhide HW).same q (by rw [List.length_append, bytesL_length]; omega) e).1⟩
  have FIN := hide fin
  clear fin
  by_cases hcap : cap = n
  · subst hcap
    rw [if_pos rfl, Nat.sub_self, Nat.sub_eq_zero_of_le hc] at HS
    go_wp2_with fail
    go_ret
    exact unhide FIN _ (unhide HS) ((Ext.refl _ _).setCell 0 _)
  · rw [if_neg hcap] at HS
    go_wp2_with fail
    go_ret
    exact unhide FIN _ (unhide HS) ((Ext.refl _ _).setCell 0 _)
end Go.Proofs.YtkafldkhmkdafaaGreatDoor
