/-
  What is thrown is caught.
  What Parse reads.
-/
import Derived.Test.YtndgajlidckcdaaGreatDoorB11
import Derived.Defers
import Derived.Recover
namespace Go.Proofs.YtndgajlidckcdaaGreatDoor
open Go.RowKit

theorem catch_idle (p q : Addr) (w : World) :
    CallsD Tryz.prog 41 #[.pointer (some p), .pointer (some q)] .returning w fun e u' w' => e = .returned (.tuple #[]) ∧ u' = .returning ∧ w' = w := by
  have hne : ∀ w : World, (binOp BinOp.neq 20 .nilIface .nilIface).run Tryz.prog w = .ok (.bool false) w := fun _ => by kernel_rfl
  refine callsD_of_wpS Tryz.func41 rfl fun c₀ cs hu => ?_
  apply wpS_seq
  apply wpS_region
  simp [wpOpsS, go_sem, recoverD, hu, Tryz.ntmps41, Exit.thenS]
  refine wpS_of_wp ?_
  show Code.wp _ _ _ { tmps := #[.pointer (some p), .pointer (some q), .nilIface, .nilIface, undef, undef, undef, undef], defers := [] } w
  go_wp2_with fail
  exact ⟨rfl, .returning, by rw [← hu], _, results_none Tryz.results41 _ _ _, rfl, rfl, rfl⟩

set_option maxRecDepth 100000 in
set_option maxHeartbeats 1000000 in
theorem catch_panicking (b : Nat) (e pl : Int) (older : List PanicEntry) (w : World) {v1 v2 : Value} {t1 t2 : TypeId} (hb1 : w.heap[b]? = some (.cells #[v1] t1 (0, 0))) (hb2 : w.heap[b + 1]? = some (.cells #[v2] t2 (0, 0))) :
    CallsD Tryz.prog 41 #[.pointer (some ⟨b, 0, none⟩), .pointer (some ⟨b + 1, 0, none⟩)] (.panicking ({ v := .iface 120 (.agg #[.int .i64 e, .int .i64 pl]), recovered := false } :: older)) w fun en u' w' =>
      en = .returned (.tuple #[]) ∧ u' = .panicking ({ v := .iface 120 (.agg #[.int .i64 e, .int .i64 pl]), recovered := true } :: older) ∧
      w' = ((((w.alloc (.cells #[.int .i64 e, .int .i64 pl] 120)).alloc (.cells #[.int .i64 e, .int .i64 pl] 123)).setCell ⟨b, 0, none⟩ (.pointer none)).setCell ⟨b + 1, 0, none⟩ (.iface 122 (.pointer (some ⟨w.heap.size + 1, 0, none⟩)))) := by
  refine callsD_of_wpS Tryz.func41 rfl fun c₀ cs hu => ?_
  apply wpS_seq
  apply wpS_region
  simp [wpOpsS, go_sem, recoverD, hu, Tryz.ntmps41, Exit.thenS]
  refine wpS_of_wp ?_
  show Code.wp _ _ _ { tmps := #[.pointer (some ⟨b, 0, none⟩), .pointer (some ⟨b + 1, 0, none⟩), .iface 120 (.agg #[.int .i64 e, .int .i64 pl]), .iface 120 (.agg #[.int .i64 e, .int .i64 pl]), undef, undef, undef, undef], defers := [] } w
  go_wp2_with fail
  refine (caught_any w e pl).mono ?_
  rintro en w1 ⟨rfl, hw1⟩
  have hl1 := (Array.getElem?_eq_some_iff.1 hb1).1
  have hl2 := (Array.getElem?_eq_some_iff.1 hb2).1
  have k1 : w1.heap[b]? = some (.cells #[v1] t1 (0, 0)) := by rw [hw1, hold _ _ (by simp; omega), hold _ _ hl1, hb1]
  have k2 : w1.heap[b + 1]? = some (.cells #[v2] t2 (0, 0)) := by rw [hw1, hold _ _ (by simp; omega), hold _ _ hl2, hb2]
  have c1 : w1.cell? ⟨b, 0, none⟩ = some v1 := hcell k1 0
  have c2 : w1.cell? ⟨b + 1, 0, none⟩ = some v2 := hcell k2 0
  have f1 := hfroz k1 0
  have f2 := hfroz k2 0
  have HW := hide hw1
  clear k1 k2 hb1 hb2 hw1
  go_wp2_with fail
  refine ⟨rfl, _, rfl, _, results_none Tryz.results41 _ _ _, rfl, rfl, ?_⟩
  rw [unhide HW]
end Go.Proofs.YtndgajlidckcdaaGreatDoor

namespace Go.Proofs.YtndgajlidckcdaaGreatDoor
open Go.RowKit

/-- A reader ahead of its first token. -/
def firstS (s : ByteArray) (v : Value) : LS := ⟨s, 0, 1, 0, 0, 0, ⟨#[]⟩, ⟨#[]⟩, 0, 0, v⟩
/-- What Parse reads: an error and its place, or a program. -/
def readP (s : ByteArray) (v : Value) : Res Tree := match advP (firstS s v) with
  | .inl f => .inl f
  | .inr S => programP (lower 26) S
end Go.Proofs.YtndgajlidckcdaaGreatDoor
