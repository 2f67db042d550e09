/-
  An error's number and place, held against the document's.
-/
import Derived.Test.YtkmeahgnijeheaaDoorHTell
namespace Go.Proofs.YtkmeahgnijeheaaDoor
open Go.RowKit Go.Extern.Stop Go.Stop

theorem toAt (v : Value) (w : World) : (Go.Instr.typeAssert (.iface 67 v) 24 67 true).run Tryd.prog w = .ok (.tuple #[v, .bool true]) w := by kernel_rfl
theorem notAt (n : Int) (w : World) : (Go.Instr.typeAssert (.iface 35 (.int .i64 n)) 24 67 true).run Tryd.prog w = .ok (.tuple #[.pointer none, .bool false]) w := by kernel_rfl
theorem noUn (v : Value) (xT : TypeId) (w : World) : (Go.Instr.typeAssert (.iface 35 v) xT 70 true).run Tryd.prog w = .ok (.tuple #[.nilIface, .bool false]) w := run_typeAssert_lacksB Tryd.underlying70 (by kernel_rfl) (by kernel_rfl) v xT w

def PlacePost (w : World) (n p : Int) (e : Ending) (w' : World) : Prop := e = .returned (.tuple #[.int .i64 n, .int .i64 p]) ∧ Below w.heap.size w w'

set_option maxRecDepth 100000 in
set_option maxHeartbeats 4000000 in
theorem place_any {w : World} {v : Value} {n p : Int} (h : ErrAt w v n p) (hT : ErrT w) :
    Calls Tryd.prog 22 #[v] w fun e w' => PlacePost w n p e w' := by
  have H := hide h
  have HT := hide hT
  have q0 := neqNil0
  have q1 := toAt
  have q2 := notAt
  have q3 := noUn
  clear hT
  rcases h with ⟨rfl, rfl, rfl⟩ | ⟨rfl, rfl⟩ | ⟨b, rfl, h1, h2⟩
  · go_enter Tryd.func22, Tryd.ntmps22
    go_wp2_with fail
    refine (tell_any (unhide H) (unhide HT)).mono ?_
    rintro e w1 ⟨rfl, hb1⟩
    have HB := hide hb1
    clear hb1
    go_wp2_with fail
    refine wp_loop_rounds 1 ?_
    rw [rounds_succ]
    go_wp2_with fail
    go_ret2
    exact ⟨rfl, unhide HB⟩
  · go_enter Tryd.func22, Tryd.ntmps22
    go_wp2_with fail
    refine (tell_any (unhide H) (unhide HT)).mono ?_
    rintro e w1 ⟨rfl, hb1⟩
    have HB := hide hb1
    clear hb1
    go_wp2_with fail
    refine wp_loop_rounds 1 ?_
    rw [rounds_succ]
    go_wp2_with fail
    go_ret2
    exact ⟨rfl, unhide HB⟩
  · go_enter Tryd.func22, Tryd.ntmps22
    go_wp2_with fail
    refine (tell_any (unhide H) (unhide HT)).mono ?_
    rintro e w1 ⟨rfl, hb1⟩
    have k2 := cellk hb1 h2 (cell_lt h2)
    have HB := hide hb1
    clear hb1 h1 h2
    go_wp2_with fail
    refine wp_loop_rounds 1 ?_
    rw [rounds_succ]
    go_wp2_with fail
    go_quiet (fail)
    go_wp2_with fail
    go_ret2
    exact ⟨rfl, Bl.drewN (unhide HB) _⟩

set_option maxRecDepth 100000 in
set_option maxHeartbeats 4000000 in
theorem at_any {w : World} {v : Value} {n p : Int} (h : ErrAt w v n p) (hT : ErrT w) (n' p' : Int) :
    Calls Tryd.prog 17 #[v, .agg #[.int .i64 n', .int .i64 p']] w fun e w' => e = .returned (.bool ((n == n') && (p == p'))) ∧ Below w.heap.size w w' := by
  have H := hide h
  have HT := hide hT
  clear h hT
  have hba : ∀ o, Below w.heap.size w (w.alloc o) := fun o => (Below.refl _ _).alloc (Nat.le_refl _) o
  have HBA := hide hba
  clear hba
  cases h1 : (n == n') with
  | true =>
    go_enter Tryd.func17, Tryd.ntmps17
    go_wp2_with fail
    refine (place_any ((unhide H).keep (unhide HBA _)) ((unhide HT).keep (unhide HBA _))).mono ?_
    rintro e w1 ⟨rfl, hb1⟩
    have hk := (hb1.block w.heap.size (by simp)).trans (hnew w _)
    have k0 : w1.cell? ⟨w.heap.size, 0, none⟩ = some (.int .i64 n') := hcell hk 0
    have k1 : w1.cell? ⟨w.heap.size, 1, none⟩ = some (.int .i64 p') := hcell hk 1
    have HB := hide ((unhide HBA _).trans (hb1.mono (by simp)))
    clear hb1 hk
    go_wp2_with fail
    go_ret
    exact ⟨rb (by simp), unhide HB⟩
  | false =>
    go_enter Tryd.func17, Tryd.ntmps17
    go_wp2_with fail
    refine (place_any ((unhide H).keep (unhide HBA _)) ((unhide HT).keep (unhide HBA _))).mono ?_
    rintro e w1 ⟨rfl, hb1⟩
    have hk := (hb1.block w.heap.size (by simp)).trans (hnew w _)
    have k0 : w1.cell? ⟨w.heap.size, 0, none⟩ = some (.int .i64 n') := hcell hk 0
    have k1 : w1.cell? ⟨w.heap.size, 1, none⟩ = some (.int .i64 p') := hcell hk 1
    have HB := hide ((unhide HBA _).trans (hb1.mono (by simp)))
    clear hb1 hk
    go_wp2_with fail
    go_ret
    exact ⟨rb (by simp), unhide HB⟩

set_option maxRecDepth 100000 in
set_option maxHeartbeats 4000000 in
theorem lawBare_any {w : World} {v : Value} {n p : Int} (h : ErrAt w v n p) (hT : ErrT w) (n' : Int) :
    Calls Tryd.prog 8 #[v, .int .i64 n'] w fun e w' => e = .returned (.bool ((n == n') && (p == -1))) ∧ Below w.heap.size w w' := by
  have H := hide h
  have HT := hide hT
  clear h hT
  go_enter Tryd.func8, Tryd.ntmps8
  go_wp2_with fail
  refine (bare_any n' _).mono ?_
  rintro e w1 ⟨rfl, hb1⟩
  have HB1 := hide hb1
  clear hb1
  go_wp2_with fail
  refine (at_any ((unhide H).keep (unhide HB1)) ((unhide HT).keep (unhide HB1)) n' (-1)).mono ?_
  rintro e w2 ⟨rfl, hb2⟩
  have HB2 := hide ((unhide HB1).trans (hb2.mono (unhide HB1).size))
  clear hb2
  go_wp2_with fail
  go_ret
  exact ⟨rfl, unhide HB2⟩
end Go.Proofs.YtkmeahgnijeheaaDoor
