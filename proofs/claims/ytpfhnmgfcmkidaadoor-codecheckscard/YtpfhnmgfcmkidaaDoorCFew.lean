/-
  Images that are small enough to be held.
-/
import Derived.Test.YtpfhnmgfcmkidaaDoorCCheck
namespace Go.Proofs.YtpfhnmgfcmkidaaDoor
open Go.RowKit

def FewPost (m : PM) (w : World) (e : Ending) (w' : World) : Prop := Below w.heap.size w w' ∧ ∃ c, e = .returned (.bool c) ∧ (c = true → m.funcs.length ≤ 260 ∧ m.consts.length ≤ 1100 ∧ m.classes.length ≤ 260)

set_option maxRecDepth 100000 in
set_option maxHeartbeats 8000000 in
theorem few_law {w : World} {m : PM} {vf vc vk : Value} (h : ImgIs w vf vc vk m) :
    Calls Tryd.prog 5 #[.agg #[vf, vc, vk]] w fun e w' => FewPost m w e w' := by
  obtain ⟨RF, ⟨gf, capf, rfl, nf, rf⟩, hRF⟩ := h.funcs
  obtain ⟨gc, capc, rfl, nc, _⟩ := h.consts
  obtain ⟨RK, ⟨gk, capk, rfl, nk, rk⟩, hRK⟩ := h.classes
  have HRF := hide rf
  have HRRF := hide hRF
  have HRK := hide rk
  have HRRK := hide hRK
  have HBA : ∀ o, Hid (Below w.heap.size w (w.alloc o)) := fun o => (Below.refl _ _).alloc (Nat.le_refl _) o
  clear h rf hRF rk hRK
  by_cases h1 : 260 < m.funcs.length
  · have b1 : decide ((260 : Int) < (m.funcs.length : Int)) = true := by simp; omega
    go_enter Tryd.func5, Tryd.ntmps5
    go_wp2_with fail
    go_ret
    exact ⟨unhide (HBA _), false, rfl, fun e => by cases e⟩
  · have b1 : decide ((260 : Int) < (m.funcs.length : Int)) = false := by simp; omega
    by_cases h2 : 1100 < m.consts.length
    · have b2 : decide ((1100 : Int) < (m.consts.length : Int)) = true := by simp; omega
      go_enter Tryd.func5, Tryd.ntmps5
      go_wp2_with fail
      go_ret
      exact ⟨unhide (HBA _), false, rfl, fun e => by cases e⟩
    · have b2 : decide ((1100 : Int) < (m.consts.length : Int)) = false := by simp; omega
      by_cases h3 : 260 < m.classes.length
      · have b3 : decide ((260 : Int) < (m.classes.length : Int)) = true := by simp; omega
        go_enter Tryd.func5, Tryd.ntmps5
        go_wp2_with fail
        go_ret
        exact ⟨unhide (HBA _), false, rfl, fun e => by cases e⟩
      · have b3 : decide ((260 : Int) < (m.classes.length : Int)) = false := by simp; omega
        have HBD : Hid (m.funcs.length ≤ 260 ∧ m.consts.length ≤ 1100 ∧ m.classes.length ≤ 260) := ⟨by omega, by omega, by omega⟩
        go_enter Tryd.func5, Tryd.ntmps5
        go_wp2_with fail
        obtain ⟨w0, hw0⟩ : ∃ w0, w.alloc (.cells #[.slice gf m.funcs.length capf, .slice gc m.consts.length capc, .slice gk m.classes.length capk] 26) = w0 := ⟨_, rfl⟩
        have hb0 : Below w.heap.size w w0 := by rw [← hw0]; exact unhide (HBA _)
        have hk : w0.heap[w.heap.size]? = some (.cells #[.slice gf m.funcs.length capf, .slice gc m.consts.length capc, .slice gk m.classes.length capk] 26 (0, 0)) := by rw [← hw0]; exact hnew _ _
        have k0 : w0.cell? ⟨w.heap.size, 0, none⟩ = some (.slice gf m.funcs.length capf) := hcell hk 0
        have k2 : w0.cell? ⟨w.heap.size, 2, none⟩ = some (.slice gk m.classes.length capk) := hcell hk 2
        have HB0 := hide hb0
        rw [hw0]
        clear hw0 hb0 hk
        go_loopg [3, 4] m.funcs.length (fun gg s i wr => ∃ (k : Nat) (t : Int), k ≤ m.funcs.length ∧ gg = m.funcs.length - k ∧ i = .int .i64 k ∧ s = .int .i64 t ∧ Hid (∃ n, wr = w0.drewN n))
        case atStart => exact ⟨0, 0, Nat.zero_le _, rfl, rfl, rfl, 0, rfl⟩
        case round =>
          obtain ⟨k, t, hk, rfl, rfl, rfl, HW⟩ := hrel
          obtain ⟨n, hn⟩ := unhide HW
          have e0 : wr.cell? ⟨w.heap.size, 0, none⟩ = some (.slice gf m.funcs.length capf) := by rw [hn]; exact k0
          have e2 : wr.cell? ⟨w.heap.size, 2, none⟩ = some (.slice gk m.classes.length capk) := by rw [hn]; exact k2
          have HNW := hide hn
          by_cases hlt : k < m.funcs.length
          · have hx : m.funcs[k]? = some (m.funcs[k]'hlt) := List.getElem?_eq_getElem _
            generalize (m.funcs[k]'hlt) = x at *
            obtain ⟨gb, go, rfl, hF⟩ := FnAt.of_rows (unhide HRF) hlt (unhide HRRF k x hx)
            obtain ⟨g3, p3, e3, _, _⟩ := hF.fn.2.2.2.1
            obtain ⟨g4, p4, e4, _, _⟩ := hF.fn.2.2.2.2.1
            obtain ⟨g5, p5, e5, _, _⟩ := hF.fn.2.2.2.2.2
            have hF2 := hF.keep (unhide HB0)
            have i3 : wr.cell? ⟨gb, go + k * 6 + 3, none⟩ = some (.slice g3 x.code.length p3) := by rw [hn, ← e3]; exact hF2.c3
            have i4 : wr.cell? ⟨gb, go + k * 6 + 4, none⟩ = some (.slice g4 x.hands.length p4) := by rw [hn, ← e4]; exact hF2.c4
            have i5 : wr.cell? ⟨gb, go + k * 6 + 5, none⟩ = some (.slice g5 x.vars.length p5) := by rw [hn, ← e5]; exact hF2.c5
            have hk2 : (k : Int) < (m.funcs.length : Int) := by omega
            clear hx hF hF2 e3 e4 e5 hn k0 k2
            go_wp2_with fail
            go_quiet (fail)
            go_wp2_with fail
            go_roundg (m.funcs.length - (k + 1))
            case measure => omega
            case rel => exact ⟨k + 1, _, by omega, rfl, by go_num, rfl, _, by rw [unhide HNW, World.drewN_drewN]⟩
          · obtain rfl : k = m.funcs.length := by omega
            have hff : decide ((m.funcs.length : Int) < (m.funcs.length : Int)) = false := by simp
            clear hn hlt hk k0
            go_wp2_with fail
            go_loopg [3, 5] m.classes.length (fun gg s i wx => ∃ (k : Nat) (t : Int), k ≤ m.classes.length ∧ gg = m.classes.length - k ∧ i = .int .i64 k ∧ s = .int .i64 t ∧ Hid (∃ n, wx = w0.drewN n))
            case atStart => exact ⟨0, t, Nat.zero_le _, rfl, rfl, rfl, unhide HW⟩
            case round =>
              obtain ⟨k, t, hk, rfl, rfl, rfl, HW⟩ := hrel
              obtain ⟨n, hn⟩ := unhide HW
              have e2 : wr.cell? ⟨w.heap.size, 2, none⟩ = some (.slice gk m.classes.length capk) := by rw [hn]; exact k2
              have HNW := hide hn
              by_cases hlt : k < m.classes.length
              · have hx : m.classes[k]? = some (m.classes[k]'hlt) := List.getElem?_eq_getElem _
                generalize (m.classes[k]'hlt) = x at *
                obtain ⟨gb, go, rfl, hK⟩ := KdAt.of_rows (unhide HRK) hlt (unhide HRRK k x hx)
                obtain ⟨g2, p2, q2, _, _⟩ := hK.kd.2.2.1
                obtain ⟨g3, p3, q3, _, _⟩ := hK.kd.2.2.2.1
                obtain ⟨g4, p4, q4, _, _⟩ := hK.kd.2.2.2.2
                have i2 : wr.cell? ⟨gb, go + k * 5 + 2, none⟩ = some (.slice g2 x.fields.length p2) := by rw [hn, ← q2]; exact cellk (unhide HB0) hK.c2 (cell_lt hK.c2)
                have i3 : wr.cell? ⟨gb, go + k * 5 + 3, none⟩ = some (.slice g3 x.names.length p3) := by rw [hn, ← q3]; exact cellk (unhide HB0) hK.c3 (cell_lt hK.c3)
                have i4 : wr.cell? ⟨gb, go + k * 5 + 4, none⟩ = some (.slice g4 x.meths.length p4) := by rw [hn, ← q4]; exact cellk (unhide HB0) hK.c4 (cell_lt hK.c4)
                have hk2 : (k : Int) < (m.classes.length : Int) := by omega
                clear hx hK q2 q3 q4 hn k2
                go_wp2_with fail
                go_quiet (fail)
                go_wp2_with fail
                go_roundg (m.classes.length - (k + 1))
                case measure => omega
                case rel => exact ⟨k + 1, _, by omega, rfl, by go_num, rfl, _, by rw [unhide HNW, World.drewN_drewN]⟩
              · obtain rfl : k = m.classes.length := by omega
                have hff2 : decide ((m.classes.length : Int) < (m.classes.length : Int)) = false := by simp
                clear hn hlt hk k2
                go_wp2_with fail
                go_ret
                exact ⟨by rw [unhide HNW]; exact Bl.drewN (unhide HB0) _, _, rfl, fun _ => unhide HBD⟩
end Go.Proofs.YtpfhnmgfcmkidaaDoor
