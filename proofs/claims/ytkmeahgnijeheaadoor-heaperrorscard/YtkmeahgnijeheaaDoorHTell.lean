/-
  What an error tells, and its place.
-/
import Derived.Test.YtkmeahgnijeheaaDoorHAs3
namespace Go.Proofs.YtkmeahgnijeheaaDoor
open Go.RowKit

theorem neqNil0 (w : World) : (binOp BinOp.neq 24 .nilIface .nilIface).run Tryd.prog w = .ok (.bool false) w := by kernel_rfl
theorem eqlNil0 (w : World) : (binOp BinOp.eql 24 .nilIface .nilIface).run Tryd.prog w = .ok (.bool true) w := by kernel_rfl

/-- The errors' type, where it lies. -/
def ErrT (w : World) : Prop := w.cell? ⟨0, 0, none⟩ = some errT
theorem ErrT.keep {w w' : World} (h : ErrT w) (hb : Below w.heap.size w w') : ErrT w' := cellk hb h (cell_lt h)

set_option maxRecDepth 100000 in
set_option maxHeartbeats 4000000 in
theorem tell_any {w : World} {v : Value} {n p : Int} (h : ErrAt w v n p) (hT : ErrT w) :
    Calls Tryd.prog 23 #[v] w fun e w' => e = .returned (.int .i64 n) ∧ Below w.heap.size w w' := by
  have HT := hide hT
  have hT2 := hide (cell_al hT (.cells #[.int .i64 0] 35))
  rcases h with ⟨rfl, rfl, rfl⟩ | ⟨rfl, rfl⟩ | ⟨b, rfl, h1, h2⟩
  · have q := eqlNil0
    clear hT
    go_enter Tryd.func23, Tryd.ntmps23
    go_wp2_with fail
    go_ret
    exact ⟨rfl, Below.refl _ _⟩
  · clear hT
    go_enter Tryd.func23, Tryd.ntmps23
    go_wp2_with fail
    refine (as_hit n ⟨w.heap.size, 0, none⟩ (.int .i64 0) _ (unhide hT2) (hcell (hnew _ _) 0) (hfroz (hnew _ _) 0)).mono ?_
    rintro e w2 ⟨rfl, w1, hb1, rfl⟩
    have hs1 : w.heap.size < w1.heap.size := by have := hb1.size; simp at this; omega
    obtain ⟨cs, hcs⟩ : ∃ t fr, w1.heap[w.heap.size]? = some (.cells #[.int .i64 0] t fr) := ⟨_, _, (hb1.block w.heap.size (by simp)).trans (hnew _ _)⟩
    obtain ⟨fr, hcs⟩ := hcs
    have k0 : (w1.setCell ⟨w.heap.size, 0, none⟩ (.int .i64 n)).cell? ⟨w.heap.size, 0, none⟩ = some (.int .i64 n) := (hcell (hset hcs 0 _) 0).trans rfl
    have HB : Hid (Below w.heap.size w (w1.setCell ⟨w.heap.size, 0, none⟩ (.int .i64 n))) := (((Below.refl _ _).alloc (Nat.le_refl _) _).trans (hb1.mono (by simp))).setCell (p := ⟨w.heap.size, 0, none⟩) (Nat.le_refl _) _
    clear hb1 hcs
    go_wp2_with fail
    go_ret
    exact ⟨rfl, unhide HB⟩
  · clear hT
    have ha := hide (cell_al h1 (.cells #[.int .i64 0] 35))
    go_enter Tryd.func23, Tryd.ntmps23
    go_wp2_with fail
    refine (as_at n b ⟨w.heap.size, 0, none⟩ (.int .i64 0) _ (unhide hT2) (unhide ha) (hcell (hnew _ _) 0) (hfroz (hnew _ _) 0)).mono ?_
    rintro e w2 ⟨rfl, w1, hb1, rfl⟩
    obtain ⟨cs, fr, hcs⟩ : ∃ t fr, w1.heap[w.heap.size]? = some (.cells #[.int .i64 0] t fr) := ⟨_, _, (hb1.block w.heap.size (by simp)).trans (hnew _ _)⟩
    have k0 : (w1.setCell ⟨w.heap.size, 0, none⟩ (.int .i64 n)).cell? ⟨w.heap.size, 0, none⟩ = some (.int .i64 n) := (hcell (hset hcs 0 _) 0).trans rfl
    have HB : Hid (Below w.heap.size w (w1.setCell ⟨w.heap.size, 0, none⟩ (.int .i64 n))) := (((Below.refl _ _).alloc (Nat.le_refl _) _).trans (hb1.mono (by simp))).setCell (p := ⟨w.heap.size, 0, none⟩) (Nat.le_refl _) _
    clear hb1 hcs
    go_wp2_with fail
    go_ret
    exact ⟨rfl, unhide HB⟩
end Go.Proofs.YtkmeahgnijeheaaDoor
