/-
  The document's check of an image.
-/
import Derived.Test.YtpfhnmgfcmkidaaDoorCFun1
namespace Go.Proofs.YtpfhnmgfcmkidaaDoor
open Go.RowKit

def IPost (m : PM) (w : World) (e : Ending) (w' : World) : Prop := Below w.heap.size w w' ∧ ∃ n p, e = .returned (.agg #[.int .i64 n, .int .i64 p]) ∧ Verdict m n p
theorem IPost.mk {m : PM} {w w' : World} {n p : Int} (hb : Below w.heap.size w w') (hv : Verdict m n p) : IPost m w (.returned (.agg #[.int .i64 n, .int .i64 p])) w' := ⟨hb, n, p, rfl, hv⟩

theorem roundP_succ (A : List Int) (i : Int) (g n : Nat) (k : Int) : roundP A i (g + 1) n k = if belowB k A.length then (if k = i ∨ A.length < n then true else roundP A i g (n + 1) (oneUp A k)) else false := rfl

/-- The result's block. -/
structure Rb (w0 : World) (rb : Nat) : Prop where
  blk : ∃ t, w0.heap[rb]? = some (.cells #[.int .i64 0, .int .i64 0] t (0, 0))
theorem Rb.cells {w0 wr : World} {rb : Nat} (h : Rb w0 rb) (hb : Below w0.heap.size w0 wr) : wr.cell? ⟨rb, 0, none⟩ = some (.int .i64 0) ∧ wr.cell? ⟨rb, 1, none⟩ = some (.int .i64 0) ∧ wr.frozen? ⟨rb, 0, none⟩ = false ∧ wr.frozen? ⟨rb, 1, none⟩ = false ∧ rb < wr.heap.size := by
  obtain ⟨t, h⟩ := h
  have h2 := (hb.block rb (hlt h)).trans h
  exact ⟨hcell h2 0, hcell h2 1, hfroz h2 0, hfroz h2 1, hlt h2⟩

theorem two_set {w1 : World} {rb : Nat} {a b : Value} {t : TypeId} (h : w1.heap[rb]? = some (.cells #[a, b] t (0, 0))) (x y : Value) : ((w1.setCell ⟨rb, 0, none⟩ x).setCell ⟨rb, 1, none⟩ y).cell? ⟨rb, 0, none⟩ = some x ∧ ((w1.setCell ⟨rb, 0, none⟩ x).setCell ⟨rb, 1, none⟩ y).cell? ⟨rb, 1, none⟩ = some y := by
  have h1 := hset h 0 x
  have h2 := hset h1 1 y
  exact ⟨hcell h2 0, hcell h2 1⟩
theorem below_two {B : Nat} {w w1 : World} {rb : Nat} (hb : Below B w w1) (hr : B ≤ rb) (x y : Value) : Below B w ((w1.setCell ⟨rb, 0, none⟩ x).setCell ⟨rb, 1, none⟩ y) := (hb.setCell (p := ⟨rb, 0, none⟩) hr x).setCell (p := ⟨rb, 1, none⟩) hr y

set_option maxRecDepth 100000 in
set_option maxHeartbeats 4000000 in
theorem img_limit {w : World} {b : Nat} {m : PM} {vf vc vk : Value} (h : ImgAt w b m vf vc vk) (hl : limitOk m = false) :
    Calls Tryd.prog 8 #[.pointer (some ⟨b, 0, none⟩)] w fun e w' => IPost m w e w' := by
  have hd : (inB m.funcs.length 1 250 && decide (m.consts.length ≤ 1000) && decide (m.classes.length ≤ 250)) = false := hl
  have HV : Hid (Verdict m 4 (-1)) := Or.inl ⟨hl, rfl, rfl⟩
  have c0 := cell_al h.c0
  have c1 := cell_al h.c1
  have c2 := cell_al h.c2
  obtain ⟨_, ⟨gf, capf, rfl, _, _⟩, _⟩ := h.img.funcs
  obtain ⟨gc, capc, rfl, _, _⟩ := h.img.consts
  obtain ⟨_, ⟨gk, capk, rfl, _, _⟩, _⟩ := h.img.classes
  clear h hl
  generalize m.funcs.length = F at *
  generalize m.consts.length = K at *
  generalize m.classes.length = L at *
  cases q1 : inB F 1 250 with
  | false =>
    clear hd
    go_enter Tryd.func8, Tryd.ntmps8
    go_wp2_with fail
    refine (within_is q1 _).mono ?_
    rintro e wa ⟨rfl, rfl⟩
    go_wp2_with fail
    refine (bare_any 4 _).mono ?_
    rintro e w1 ⟨rfl, hb1⟩
    have hk := (hb1.block w.heap.size (by simp)).trans (hnew w _)
    have k0 : w1.cell? ⟨w.heap.size, 0, none⟩ = some (.int .i64 0) := hcell hk 0
    have k1 : w1.cell? ⟨w.heap.size, 1, none⟩ = some (.int .i64 0) := hcell hk 1
    have f0 := hfroz hk 0
    have f1 := hfroz hk 1
    obtain ⟨z0, z1⟩ := two_set hk (.int .i64 4) (.int .i64 (-1))
    have HB := hide (((Below.refl w.heap.size w).alloc (Nat.le_refl _) _).trans (hb1.mono (by simp)))
    clear hb1 hk
    go_wp2_with fail
    exact bodyPost_ret (v := .agg #[.int .i64 4, .int .i64 (-1)]) (by simp [results, Tryd.results8, go_sem, z0, z1]) rfl (IPost.mk (below_two (unhide HB) (Nat.le_refl _) _ _) (unhide HV))
  | true =>
    by_cases h2 : 1000 < K
    · have b2 : decide ((1000 : Int) < (K : Int)) = true := by simp; omega
      clear hd
      go_enter Tryd.func8, Tryd.ntmps8
      go_wp2_with fail
      refine (within_is q1 _).mono ?_
      rintro e wa ⟨rfl, rfl⟩
      go_wp2_with fail
      refine (bare_any 4 _).mono ?_
      rintro e w1 ⟨rfl, hb1⟩
      have hk := (hb1.block w.heap.size (by simp)).trans (hnew w _)
      have k0 : w1.cell? ⟨w.heap.size, 0, none⟩ = some (.int .i64 0) := hcell hk 0
      have k1 : w1.cell? ⟨w.heap.size, 1, none⟩ = some (.int .i64 0) := hcell hk 1
      have f0 := hfroz hk 0
      have f1 := hfroz hk 1
      obtain ⟨z0, z1⟩ := two_set hk (.int .i64 4) (.int .i64 (-1))
      have HB := hide (((Below.refl w.heap.size w).alloc (Nat.le_refl _) _).trans (hb1.mono (by simp)))
      clear hb1 hk
      go_wp2_with fail
      exact bodyPost_ret (v := .agg #[.int .i64 4, .int .i64 (-1)]) (by simp [results, Tryd.results8, go_sem, z0, z1]) rfl (IPost.mk (below_two (unhide HB) (Nat.le_refl _) _ _) (unhide HV))
    · have b2 : decide ((1000 : Int) < (K : Int)) = false := by simp; omega
      have b3 : decide ((250 : Int) < (L : Int)) = true := by
        rw [q1] at hd
        simp at hd
        simp
        omega
      clear hd
      go_enter Tryd.func8, Tryd.ntmps8
      go_wp2_with fail
      refine (within_is q1 _).mono ?_
      rintro e wa ⟨rfl, rfl⟩
      go_wp2_with fail
      refine (bare_any 4 _).mono ?_
      rintro e w1 ⟨rfl, hb1⟩
      have hk := (hb1.block w.heap.size (by simp)).trans (hnew w _)
      have k0 : w1.cell? ⟨w.heap.size, 0, none⟩ = some (.int .i64 0) := hcell hk 0
      have k1 : w1.cell? ⟨w.heap.size, 1, none⟩ = some (.int .i64 0) := hcell hk 1
      have f0 := hfroz hk 0
      have f1 := hfroz hk 1
      obtain ⟨z0, z1⟩ := two_set hk (.int .i64 4) (.int .i64 (-1))
      have HB := hide (((Below.refl w.heap.size w).alloc (Nat.le_refl _) _).trans (hb1.mono (by simp)))
      clear hb1 hk
      go_wp2_with fail
      exact bodyPost_ret (v := .agg #[.int .i64 4, .int .i64 (-1)]) (by simp [results, Tryd.results8, go_sem, z0, z1]) rfl (IPost.mk (below_two (unhide HB) (Nat.le_refl _) _ _) (unhide HV))
end Go.Proofs.YtpfhnmgfcmkidaaDoor
