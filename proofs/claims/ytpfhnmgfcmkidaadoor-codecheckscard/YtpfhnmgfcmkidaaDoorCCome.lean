/-
  One comes to an instruction.
-/
import Derived.Test.YtpfhnmgfcmkidaaDoorCComeM
namespace Go.Proofs.YtpfhnmgfcmkidaaDoor
open Go.RowKit

/-- What a coming leaves behind. -/
def ComePost (B : Nat) (w : World) (r vb : Nat) (vcode : Value) (N : Nat) (f : Nat → Option Nat) (o : List Nat) (p n : Nat) (e : Ending) (w' : World) : Prop :=
  Below B w w' ∧
  ((comeP N f p n = none ∧ e = .returned (.bool false)) ∨
   (comeP N f p n = some (f, false) ∧ e = .returned (.bool true) ∧ w = w') ∨
   (comeP N f p n = some (upd f p n, true) ∧ f p = none ∧ e = .returned (.bool true) ∧ ∃ vopen, WaysAt B w' r vb vcode vopen N (upd f p n) (o ++ [p])))

theorem owns_alloc {w : World} {B : Nat} {e : TypeId} {size : Nat} {v : Value} {n : Nat} {xs : List Value} (h : w.ownsRow B e size v n xs) (ob : Obj) : (w.alloc ob).ownsRow B e size v n xs := by
  refine ⟨h.1, ?_⟩
  rcases h.2 with h | ⟨g, cap, cur, h1, h2, h3, h4⟩
  · exact Or.inl h
  · exact Or.inr ⟨g, cap, cur, h1, h2, (Below.heap_alloc _ _ _ (hlt h3)).trans h3, h4⟩
theorem WaysAt.alloc {B : Nat} {w : World} {r vb : Nat} {vcode vopen : Value} {N : Nat} {f : Nat → Option Nat} {o : List Nat} (h : WaysAt B w r vb vcode vopen N f o) (ob : Obj) : WaysAt B (w.alloc ob) r vb vcode vopen N f o := h.keep ((Below.refl _ _).alloc (Nat.le_refl _) _)
theorem hnew (w : World) (o : Obj) : (w.alloc o).heap[w.heap.size]? = some o := by
  show (w.heap.push o)[w.heap.size]? = _
  simp

theorem news_at {W : World} {H : Nat} (hH : W.heap.size = H) (cs : Array Value) (t : TypeId) : ∀ j u, cs.toList[j]? = some u → (W.alloc (.cells cs t)).cell? ((⟨H, 0, none⟩ : Addr).add j) = some u :=
  World.news_of_block (B := H) (by rw [← hH]; exact hnew _ _)
theorem one_ints (n : Int) : ∀ u ∈ [Value.int .i64 n], u.oneCell' = true := fun u hu => by simp at hu; subst hu; rfl

set_option maxRecDepth 100000 in
set_option maxHeartbeats 4000000 in
theorem come_any {B : Nat} {w : World} {r vb : Nat} {vcode vopen : Value} {N : Nat} {f : Nat → Option Nat} {o : List Nat} (h : WaysAt B w r vb vcode vopen N f o) (hB : B ≤ w.heap.size) {g0 : Option Addr} {cap0 : Nat} (hcode : vcode = .slice g0 N cap0) (_hN : N ≤ 5000) (hol : o.length ≤ 5000) (p n : Nat) (hp : p ≤ 5000) (hn : n ≤ 1000) :
    Calls Tryd.prog 44 #[.pointer (some ⟨r, 0, none⟩), .int .i64 p, .int .i64 n] w fun e w' => ComePost B w r vb vcode N f o p n e w' := by
  subst hcode
  obtain ⟨t1, b1⟩ := h.blk
  obtain ⟨t2, b2⟩ := h.vals
  have c0 : w.cell? ⟨r, 0, none⟩ = some (.slice g0 N cap0) := hcell b1 0
  have c1 : w.cell? ⟨r, 1, none⟩ = some (.slice (some ⟨vb, 0, none⟩) N N) := hcell b1 1
  have c2 : w.cell? ⟨r, 2, none⟩ = some vopen := hcell b1 2
  by_cases h1 : N ≤ p ∨ 200 < n
  · have HC : Hid (comeP N f p n = none) := by
      show comeP N f p n = none
      unfold comeP; rw [if_pos h1]
    clear h b1 b2
    by_cases h2 : N ≤ p
    · have d1 : decide ((N : Int) ≤ (p : Int)) = true := by simp; omega
      clear h1
      go_enter Tryd.func44, Tryd.ntmps44
      go_wp2_with fail
      go_ret
      exact ⟨Below.refl _ _, Or.inl ⟨unhide HC, rfl⟩⟩
    · have d1 : decide ((N : Int) ≤ (p : Int)) = false := by simp; omega
      have d2 : decide ((200 : Int) < (n : Int)) = true := by simp; omega
      clear h1
      go_enter Tryd.func44, Tryd.ntmps44
      go_wp2_with fail
      go_ret
      exact ⟨Below.refl _ _, Or.inl ⟨unhide HC, rfl⟩⟩
  · have hpN : p < N := by omega
    have d1 : decide ((N : Int) ≤ (p : Int)) = false := by simp; omega
    have d2 : decide ((200 : Int) < (n : Int)) = false := by simp; omega
    have cp : w.cell? ⟨vb, p, none⟩ = some (.int .i64 (noted f p)) := (hcell b2 p).trans (notedCells_get hpN)
    have fp : w.frozen? ⟨vb, p, none⟩ = false := hfroz b2 p
    have hp0 : (0 : Int) ≤ (p : Int) := by omega
    have hp1 : (p : Int) < (N : Int) := by omega
    cases hf : f p with
    | some k =>
      rw [noted_some hf] at cp
      have b3 : ((k : Int) != -1) = true := by rw [bne_iff_ne]; omega
      have HC : Hid (comeP N f p n = if k = n then some (f, false) else none) := by
        show comeP N f p n = _
        unfold comeP; rw [if_neg h1, hf]
      clear h b1 b2 h1 hf
      go_enter Tryd.func44, Tryd.ntmps44
      go_wp2_with fail
      go_ret
      refine ⟨Below.refl _ _, ?_⟩
      by_cases hk : k = n
      · exact Or.inr (Or.inl ⟨by rw [unhide HC, if_pos hk], rb (by simp [hk]), rfl⟩)
      · exact Or.inl ⟨by rw [unhide HC, if_neg hk], rb (by simp; omega)⟩
    | none =>
      rw [noted_none hf] at cp
      have HC : Hid (comeP N f p n = some (upd f p n, true)) := by
        show comeP N f p n = _
        unfold comeP; rw [if_neg h1, hf]
      have HF := hide hf
      have HW := hide (h.note p n)
      have hsz : (w.setCell ⟨vb, p, none⟩ (.int .i64 n)).heap.size = w.heap.size := by simp [World.setCell]
      have HB2 := hide (show B ≤ (w.setCell ⟨vb, p, none⟩ (.int .i64 n)).heap.size by rw [hsz]; exact hB)
      have HVB := hide h.vb0
      have HR := hide h.r0
      obtain ⟨i0, hi, hz0, hz1, hz2⟩ := info_parts infoInt
      have s2 : ∀ v, (w.setCell ⟨vb, p, none⟩ v).cell? ⟨r, 2, none⟩ = some vopen := fun v => (World.cell?_of_block (hother v (Ne.symm h.ne))).trans c2
      have HO := hide (owns_alloc (unhide HW).opn (.cells #[.int .i64 p] 3))
      have HH := hide hsz
      clear h b1 b2 h1 hf hsz
      go_enter Tryd.func44, Tryd.ntmps44
      go_wp2_with (at_builtin; refine wpList_append_lies _ rfl _ _ _ rfl B 3 i0 (.int .i64 0) 1 8 Tryd.underlying53 hi hz0 hz1 hz2 rfl (by decide) _ o.length (o.map natV) rfl (unhide HO) ⟨w.heap.size, 0, none⟩ 1 1 [.int .i64 p] rfl rfl (news_at (unhide HH) _ _) ?c2 (by decide) ?c3 ?c4 ?c5 (w.heap.size + 1) ?c6 ?_)
      case c2 => exact one_ints _
      case c3 => unfold maxLen; omega
      case c4 => omega
      case c5 => have := unhide HB2; simp; omega
      case c6 => simp
      intro g cap w3 hown hgrow hat hlt
      obtain ⟨e2, f2, hw3, hb3⟩ := ((unhide HW).alloc (.cells #[.int .i64 p] 3)).push hown hgrow (by simpa using hat) (by have := unhide HB2; simp; omega)
      have HP := hide hw3
      have HB3 := hide hb3
      clear hown hgrow hat hlt hw3 hb3
      go_wp2_with fail
      go_ret
      refine ⟨?_, Or.inr (Or.inr ⟨unhide HC, unhide HF, rfl, _, unhide HP⟩)⟩
      exact (((Below.refl B w).setCell (p := ⟨vb, p, none⟩) (unhide HVB) _).alloc (unhide HB2) _).trans (unhide HB3)
end Go.Proofs.YtpfhnmgfcmkidaaDoor
