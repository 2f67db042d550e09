/-
  Whether an image may be run, by the program.
-/
import Derived.Test.YtpfhnmgfcmkidaaDoorCWalk
namespace Go.Proofs.YtpfhnmgfcmkidaaDoor
open Go.RowKit

/-- A class's cells behind a pointer. -/
structure KdAt (w : World) (b o : Nat) (C : Nat → Value) (c : PK) : Prop where
  c0 : w.cell? ⟨b, o, none⟩ = some (.string c.name)
  c1 : w.cell? ⟨b, o + 1, none⟩ = some (.int .i64 c.above)
  c2 : w.cell? ⟨b, o + 2, none⟩ = some (C 2)
  c3 : w.cell? ⟨b, o + 3, none⟩ = some (C 3)
  c4 : w.cell? ⟨b, o + 4, none⟩ = some (C 4)
  kd : KdIs w C c
theorem KdAt.of_rows {w : World} {g : Option Addr} {n : Nat} {R : Nat → Nat → Value} (h : RowsAt w g n 5 R) {i : Nat} (hi : i < n) {c : PK} (hf : KdIs w (R i) c) : ∃ b o, g = some ⟨b, o, none⟩ ∧ KdAt w b (o + i * 5) (R i) c := by
  obtain ⟨b, o, h1, h2⟩ := h i hi
  refine ⟨b, o, h1, ⟨?_, ?_, h2 2 (by omega), h2 3 (by omega), h2 4 (by omega), hf⟩⟩
  · exact (h2 0 (by omega)).trans (by rw [hf.1])
  · exact (h2 1 (by omega)).trans (by rw [hf.2.1])
theorem IntsAt.at {w : World} {g : Option Addr} {n : Nat} {l : List Int} (h : RowsAt w g n 1 (intRow l)) {x : Nat} {i : Int} (hi : l[x]? = some i) (hn : x < n) : ∃ b o, g = some ⟨b, o, none⟩ ∧ w.cell? ⟨b, o + x, none⟩ = some (.int .i64 i) := by
  obtain ⟨b, o, h1, h2⟩ := h x hn
  refine ⟨b, o, h1, ?_⟩
  have := h2 0 (by omega); rw [intRow, hi] at this
  rw [Nat.mul_one] at this
  exact this

theorem endsP_succ (A : List Int) (n : Nat) (k : Int) : endsP A (n + 1) k = ((oneUp A k == -1) || (belowB (oneUp A k) A.length && endsP A n (oneUp A k))) := rfl

set_option maxRecDepth 100000 in
set_option maxHeartbeats 4000000 in
theorem ends_any {w : World} {b : Nat} {m : PM} {vf vc vk : Value} (h : ImgAt w b m vf vc vk) {p : Nat} (hp : p < m.classes.length) {c : Bool} (hc : endsP (aboves m) m.classes.length p = c) :
    Calls Tryd.prog 26 #[.pointer (some ⟨b, 0, none⟩), .int .i64 p] w fun e w' => e = .returned (.bool c) ∧ w = w' := by
  obtain ⟨R, ⟨g, cap, rfl, hN, hr⟩, hR⟩ := h.img.classes
  have c2 := h.c2
  have HR := hide hr
  have HRR := hide hR
  have HC := hide hc
  clear h hr hR hc
  have hN' : m.classes.length ≤ 9223372036854775807 := by omega
  go_enter Tryd.func26, Tryd.ntmps26
  go_wp2_with fail
  go_loopg [1, 10] m.classes.length (fun gg num i wr => ∃ k q : Nat, k ≤ m.classes.length ∧ gg = m.classes.length - k ∧ i = .int .i64 k ∧ num = .int .i64 q ∧ q < m.classes.length ∧ wr = w ∧ Hid (endsP (aboves m) (m.classes.length - k) q = c))
  case atStart => exact ⟨0, p, Nat.zero_le _, rfl, rfl, rfl, hp, rfl, unhide HC⟩
  case round =>
    obtain ⟨k, q, hk, rfl, rfl, rfl, hq, rfl, HE⟩ := hrel
    by_cases hlt : k < m.classes.length
    · have hx : m.classes[q]? = some (m.classes[q]'hq) := List.getElem?_eq_getElem _
      have hone := oneUp_class hx
      have HKD := hide (unhide HRR q _ hx)
      generalize (m.classes[q]'hq) = x at *
      obtain ⟨gb, go, rfl, hK⟩ := KdAt.of_rows (unhide HR) hq (unhide HKD)
      have k1 := hK.c1
      have hk2 : (k : Int) < (m.classes.length : Int) := by omega
      have hq2 : (q : Int) < (m.classes.length : Int) := by omega
      have hstep : endsP (aboves m) (m.classes.length - k) q = ((x.above == -1) || (belowB x.above m.classes.length && endsP (aboves m) (m.classes.length - (k + 1)) x.above)) := by
        obtain ⟨n, hn⟩ : ∃ n, m.classes.length - k = n + 1 := ⟨m.classes.length - (k + 1), by omega⟩
        rw [hn, show m.classes.length - (k + 1) = n by omega]
        rw [endsP_succ, hone, aboves_length]
      have HS := hide ((unhide HE).symm.trans hstep)
      clear hstep hone hK HKD hx
      cases h1 : (x.above == -1) with
      | true =>
        have HF : Hid (c = true) := by
          show c = true
          rw [unhide HS, h1]; rfl
        go_wp2_with fail
        go_ret
        exact ⟨rb (unhide HF).symm, rfl⟩
      | false =>
        cases h2 : belowB x.above m.classes.length with
        | false =>
          have HF : Hid (c = false) := by
            show c = false
            rw [unhide HS, h1, h2]; rfl
          go_wp2_with (go_at_call 41; refine (below_is h2 _).mono ?_; rintro e w' ⟨rfl, rfl⟩)
          go_ret
          exact ⟨rb (unhide HF).symm, rfl⟩
        | true =>
          obtain ⟨ha1, ha2⟩ := belowB_true h2
          obtain ⟨q', hq'⟩ := Int.eq_ofNat_of_zero_le ha1
          have HF : Hid (endsP (aboves m) (m.classes.length - (k + 1)) x.above = c) := by
            show _ = c
            rw [unhide HS, h1, h2]; rfl
          have HQ := hide hq'
          clear hq'
          go_wp2_with (go_at_call 41; refine (below_is h2 _).mono ?_; rintro e w' ⟨rfl, rfl⟩)
          go_roundg (m.classes.length - (k + 1))
          case measure => omega
          case rel => exact ⟨k + 1, q', by omega, rfl, by go_num, by rw [unhide HQ], by have := unhide HQ; omega, rfl, by rw [← unhide HQ]; exact unhide HF⟩
    · obtain rfl : k = m.classes.length := by omega
      have hff : decide ((m.classes.length : Int) < (m.classes.length : Int)) = false := by simp
      have HF : Hid (c = false) := by
        show c = false
        have := unhide HE
        rw [Nat.sub_self] at this
        rw [← this]; rfl
      go_wp2_with fail
      go_ret
      exact ⟨rb (unhide HF).symm, rfl⟩

def Cls (m : PM) (i : Nat) (x : PK) (w : World) (e : Ending) (w' : World) : Prop := e = .returned (.bool (classOk m i x)) ∧ Below w.heap.size w w'
theorem Cls.mk {m : PM} {i : Nat} {x : PK} {w w' : World} {c : Bool} (hc : c = classOk m i x) (h : Below w.heap.size w w') : Cls m i x w (.returned (.bool c)) w' := by
  rw [hc]; exact ⟨rfl, h⟩

set_option maxRecDepth 100000 in
set_option maxHeartbeats 4000000 in
theorem class_any {w : World} {b : Nat} {m : PM} {vf vc vk : Value} (h : ImgAt w b m vf vc vk) {p : Nat} {x : PK} (hx : m.classes[p]? = some x) :
    Calls Tryd.prog 14 #[.pointer (some ⟨b, 0, none⟩), .int .i64 p] w fun e w' => Cls m p x w e w' := by
  have hp := (List.getElem?_eq_some_iff.1 hx).1
  obtain ⟨R, ⟨g, cap, rfl, hN, hr⟩, hR⟩ := h.img.classes
  have c2 := h.c2
  obtain ⟨gb, go, rfl, hK⟩ := KdAt.of_rows hr hp (hR p x hx)
  have k3 := hK.c3
  have k4 := hK.c4
  obtain ⟨g3, cap3, e3, hN3, _⟩ := hK.kd.2.2.2.1
  obtain ⟨g4, cap4, e4, hN4, r4⟩ := hK.kd.2.2.2.2
  rw [e3] at k3
  rw [e4] at k4
  have H := hide h
  have R4 := hide r4
  have HP := hide hp
  have hp2 : (p : Int) < (m.classes.length : Int) := by omega
  have HD : Hid (classOk m p x = ((x.names.length == x.meths.length) && x.meths.all (callB m) && endsP (aboves m) m.classes.length p)) := rfl
  clear h hr hR hK r4 e3 e4 hx
  cases hl : ((x.names.length : Int) != (x.meths.length : Int)) with
  | true =>
    have HF : Hid (classOk m p x = false) := by
      show classOk m p x = false
      have : (x.names.length == x.meths.length) = false := by
        rw [bne_iff_ne] at hl
        rw [beq_eq_false_iff_ne]
        omega
      rw [unhide HD, this]; rfl
    go_enter Tryd.func14, Tryd.ntmps14
    go_wp2_with fail
    go_quiet (fail)
    go_wp2_with fail
    go_ret
    exact Cls.mk (unhide HF).symm (Bl.drewN (Below.refl _ _) _)
  | false =>
    have HL : Hid ((x.names.length == x.meths.length) = true) := by
      show _ = true
      rw [bne_eq_false_iff_eq] at hl
      rw [beq_iff_eq]
      omega
    go_enter Tryd.func14, Tryd.ntmps14
    go_wp2_with fail
    go_quiet (fail)
    go_wp2_with fail
    go_loopg [30] x.meths.length (fun gg i wr => ∃ k : Nat, k ≤ x.meths.length ∧ gg = x.meths.length - k ∧ i = .int .i64 k ∧ Hid ((x.meths.take k).all (callB m) = true) ∧ wr = w.drewN nq)
    case atStart => exact ⟨0, Nat.zero_le _, rfl, rfl, rfl, rfl⟩
    case round =>
      obtain ⟨k, hk, rfl, rfl, HA, rfl⟩ := hrel
      by_cases hlt : k < x.meths.length
      · have hy : x.meths[k]? = some (x.meths[k]'hlt) := List.getElem?_eq_getElem _
        generalize (x.meths[k]'hlt) = y at *
        obtain ⟨mb, mo, rfl, j0⟩ := IntsAt.at (unhide R4) hy hlt
        have hk2 : (k : Int) < (x.meths.length : Int) := by omega
        have HY := hide hy
        clear hy
        cases hcb : callB m y with
        | false =>
          have HF : Hid (classOk m p x = false) := by
            show classOk m p x = false
            rw [unhide HD, all_of_take (unhide HY) hcb, unhide HL]; rfl
          go_wp2_with (go_at_call 25; refine (callable_is hcb ((unhide H).drewN _)).mono ?_; rintro e w' ⟨rfl, rfl⟩)
          go_ret
          exact Cls.mk (unhide HF).symm (Bl.drewN (Below.refl _ _) _)
        | true =>
          have HA2 : Hid ((x.meths.take (k + 1)).all (callB m) = true) := by
            show _ = true
            rw [all_take_succ (unhide HY), unhide HA, hcb]; rfl
          go_wp2_with (go_at_call 25; refine (callable_is hcb ((unhide H).drewN _)).mono ?_; rintro e w' ⟨rfl, rfl⟩)
          go_roundg (x.meths.length - (k + 1))
          case measure => omega
          case rel => exact ⟨k + 1, by omega, rfl, by go_num, unhide HA2, rfl⟩
      · obtain rfl : k = x.meths.length := by omega
        have hff : decide ((x.meths.length : Int) < (x.meths.length : Int)) = false := by simp
        cases he : endsP (aboves m) m.classes.length p with
        | true =>
          have HF : Hid (classOk m p x = true) := by
            show classOk m p x = true
            have := unhide HA
            rw [List.take_length] at this
            rw [unhide HD, this, unhide HL, he]; rfl
          go_wp2_with (go_at_call 26; refine (ends_any ((unhide H).drewN _) (unhide HP) he).mono ?_; rintro e w' ⟨rfl, rfl⟩)
          go_ret
          exact Cls.mk (unhide HF).symm (Bl.drewN (Below.refl _ _) _)
        | false =>
          have HF : Hid (classOk m p x = false) := by
            show classOk m p x = false
            rw [unhide HD, he]; simp
          go_wp2_with (go_at_call 26; refine (ends_any ((unhide H).drewN _) (unhide HP) he).mono ?_; rintro e w' ⟨rfl, rfl⟩)
          go_ret
          exact Cls.mk (unhide HF).symm (Bl.drewN (Below.refl _ _) _)

def FnPost (m : PM) (f : PF) (w : World) (e : Ending) (w' : World) : Prop := Below w.heap.size w w' ∧ ∃ n, e = .returned (.int .i64 n) ∧ FnErr m f n

set_option maxRecDepth 100000 in
set_option maxHeartbeats 4000000 in
theorem checkFunc_any {w : World} {b : Nat} {m : PM} {vf vc vk : Value} (h : ImgAt w b m vf vc vk) {fb fo : Nat} {C : Nat → Value} {f : PF} (hf : FnAt w fb fo C f) (hin : InB f) :
    Calls Tryd.prog 15 #[.pointer (some ⟨b, 0, none⟩), .pointer (some ⟨fb, fo, none⟩)] w fun e w' => FnPost m f w e w' := by
  have H := hide h
  have HF := hide hf
  have HIN := hide hin
  clear h hf hin
  go_enter Tryd.func15, Tryd.ntmps15
  go_wp2_with fail
  refine (size_any (unhide HF)).mono ?_
  rintro e w1 ⟨rfl, k, rfl⟩
  have HB1 := hide (Bl.drewN (Below.refl w.heap.size w) k)
  cases hs : sizeOk f with
  | false =>
    have HS := hide hs
    go_wp2_with fail
    go_ret
    exact ⟨unhide HB1, _, rfl, Or.inl ⟨unhide HS, rfl⟩⟩
  | true =>
    have HS := hide hs
    go_wp2_with fail
    refine (right_any ((unhide H).drewN _) ((unhide HF).drewN _) (unhide HIN)).mono ?_
    rintro e w2 ⟨rfl, hb2⟩
    have HB2 := hide ((unhide HB1).trans hb2)
    clear hb2
    cases hn : namesOk m f with
    | false =>
      have HN := hide hn
      go_wp2_with fail
      go_ret
      exact ⟨unhide HB2, _, rfl, Or.inr (Or.inl ⟨unhide HS, unhide HN, rfl⟩)⟩
    | true =>
      have HN := hide hn
      go_wp2_with fail
      refine (ways_any ((unhide HF).keep (unhide HB2)) (unhide HS) (unhide HN)).mono ?_
      rintro e w3 ⟨hb3, hc⟩
      have HB3 := hide ((unhide HB2).trans (hb3.mono (unhide HB2).size))
      clear hb3
      rcases hc with ⟨rfl, hc⟩ | ⟨rfl, hc⟩
      · have HC := hide hc
        clear hc
        go_wp2_with fail
        go_ret
        exact ⟨unhide HB3, _, rfl, Or.inr (Or.inr (Or.inr ⟨unhide HS, unhide HN, unhide HC, rfl⟩))⟩
      · have HC := hide hc
        clear hc
        go_wp2_with fail
        go_ret
        exact ⟨unhide HB3, _, rfl, Or.inr (Or.inr (Or.inl ⟨unhide HS, unhide HN, unhide HC, rfl⟩))⟩
end Go.Proofs.YtpfhnmgfcmkidaaDoor
