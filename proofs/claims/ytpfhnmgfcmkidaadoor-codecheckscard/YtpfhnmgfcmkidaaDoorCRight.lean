/-
  Is all there that a function names?
-/
import Derived.Test.YtpfhnmgfcmkidaaDoorCNames4
namespace Go.Proofs.YtpfhnmgfcmkidaaDoor
open Go.RowKit

theorem below_at {n many : Int} {c : Bool} (h : belowB n many = c) (w : World) : Calls Tryd.prog 41 #[.int .i64 n, .int .i64 many] w fun e w' => e = .returned (.bool c) ∧ w' = w := same_back (below_is h w)
theorem span_at {w : World} {b o : Nat} {C : Nat → Value} {f : PF} {fr hi : Int} {c : Bool} (hc : spanOk f.code.length fr hi = c) (h : FnAt w b o C f) :
    Calls Tryd.prog 43 #[.pointer (some ⟨b, o, none⟩), .int .i64 fr, .int .i64 hi] w fun e w' => e = .returned (.bool c) ∧ w' = w := by
  rw [← hc]; exact same_back (span_any h fr hi)

theorem all_take_succ {α : Type} {p : α → Bool} {l : List α} {k : Nat} {x : α} (h : l[k]? = some x) : (l.take (k + 1)).all p = ((l.take k).all p && p x) := by
  obtain ⟨hk, rfl⟩ := List.getElem?_eq_some_iff.1 h
  rw [List.take_succ_eq_append_getElem hk, List.all_append]
  simp
theorem all_of_take {α : Type} {p : α → Bool} {l : List α} {k : Nat} {x : α} (h : l[k]? = some x) (hp : p x = false) : l.all p = false := by
  have hm := List.mem_of_getElem? h
  cases hz : l.all p with
  | false => rfl
  | true =>
    rw [List.all_eq_true.1 hz x hm] at hp
    cases hp

def InB (f : PF) : Prop := ∀ i ∈ f.code, i.b ≤ 9223372036854775807

theorem HandsAt.at {w : World} {g : Option Addr} {n : Nat} {l : List PH} (h : RowsAt w g n 3 (handRow l)) {x : Nat} {i : PH} (hi : l[x]? = some i) (hn : x < n) : ∃ b o, g = some ⟨b, o, none⟩ ∧ w.cell? ⟨b, o + x * 3, none⟩ = some (.int .i64 i.fr) ∧ w.cell? ⟨b, o + x * 3 + 1, none⟩ = some (.int .i64 i.to) ∧ w.cell? ⟨b, o + x * 3 + 2, none⟩ = some (.int .i64 i.tg) := by
  obtain ⟨b, o, h1, h2⟩ := h x hn
  refine ⟨b, o, h1, ?_, ?_, ?_⟩
  · have := h2 0 (by omega); rw [handRow, hi] at this; exact this
  · have := h2 1 (by omega); rw [handRow, hi] at this; exact this
  · have := h2 2 (by omega); rw [handRow, hi] at this; exact this
theorem VarsAt.at {w : World} {g : Option Addr} {n : Nat} {l : List PV} (h : RowsAt w g n 5 (varRow l)) {x : Nat} {i : PV} (hi : l[x]? = some i) (hn : x < n) : ∃ b o, g = some ⟨b, o, none⟩ ∧ w.cell? ⟨b, o + x * 5, none⟩ = some (.string i.name) ∧ w.cell? ⟨b, o + x * 5 + 1, none⟩ = some (.int .i64 i.slot) ∧ w.cell? ⟨b, o + x * 5 + 2, none⟩ = some (.int .i64 i.fr) ∧ w.cell? ⟨b, o + x * 5 + 3, none⟩ = some (.int .i64 i.to) ∧ w.cell? ⟨b, o + x * 5 + 4, none⟩ = some (.bool i.boxed) := by
  obtain ⟨b, o, h1, h2⟩ := h x hn
  refine ⟨b, o, h1, ?_, ?_, ?_, ?_, ?_⟩
  · have := h2 0 (by omega); rw [varRow, hi] at this; exact this
  · have := h2 1 (by omega); rw [varRow, hi] at this; exact this
  · have := h2 2 (by omega); rw [varRow, hi] at this; exact this
  · have := h2 3 (by omega); rw [varRow, hi] at this; exact this
  · have := h2 4 (by omega); rw [varRow, hi] at this; exact this
theorem InstrsAt.row {w : World} {g : Option Addr} {n : Nat} {l : List PI} (h : RowsAt w g n 3 (instrRow l)) {x : Nat} {i : PI} (hi : l[x]? = some i) (hn : x < n) : ∃ b o, g = some ⟨b, o, none⟩ ∧ w.cell? ⟨b, o + x * 3, none⟩ = some (.int .i64 i.op) ∧ w.cell? ⟨b, o + x * 3 + 1, none⟩ = some (.int .i64 i.a) ∧ w.cell? ⟨b, o + x * 3 + 2, none⟩ = some (.int .i64 i.b) := by
  obtain ⟨b, o, h1, h2⟩ := h x hn
  refine ⟨b, o, h1, ?_, ?_, ?_⟩
  · have := h2 0 (by omega); rw [instrRow, hi] at this; exact this
  · have := h2 1 (by omega); rw [instrRow, hi] at this; exact this
  · have := h2 2 (by omega); rw [instrRow, hi] at this; exact this

def RightPost (m : PM) (f : PF) (w : World) (e : Ending) (w' : World) : Prop := e = .returned (.bool (namesOk m f)) ∧ Below w.heap.size w w'
theorem RightPost.mk {m : PM} {f : PF} {w w' : World} {c : Bool} (hc : c = namesOk m f) (h : Below w.heap.size w w') : RightPost m f w (.returned (.bool c)) w' := by
  rw [hc]; exact ⟨rfl, h⟩

set_option maxRecDepth 100000 in
set_option maxHeartbeats 8000000 in
theorem right_any {w : World} {b : Nat} {m : PM} {vf vc vk : Value} (h : ImgAt w b m vf vc vk) {fb fo : Nat} {C : Nat → Value} {f : PF} (hf : FnAt w fb fo C f) (hin : InB f) :
    Calls Tryd.prog 28 #[.pointer (some ⟨b, 0, none⟩), .pointer (some ⟨fb, fo, none⟩)] w fun e w' => RightPost m f w e w' := by
  obtain ⟨gc, capc, hC3, hN3, r3⟩ := hf.fn.2.2.2.1
  obtain ⟨gh, caph, hC4, hN4, r4⟩ := hf.fn.2.2.2.2.1
  obtain ⟨gv, capv, hC5, hN5, r5⟩ := hf.fn.2.2.2.2.2
  have c3 := hf.c3
  have c4 := hf.c4
  have c5 := hf.c5
  rw [hC3] at c3
  rw [hC4] at c4
  rw [hC5] at c5
  have H := hide h
  have HF := hide hf
  have R3 := hide r3
  have R4 := hide r4
  have R5 := hide r5
  have HIN := hide hin
  have HC3 := hide c3
  have HC5 := hide c5
  clear h hf hin r3 r4 r5 hC3 hC4 hC5
  go_enter Tryd.func28, Tryd.ntmps28
  go_wp2_with fail
  go_loopg [16] f.code.length (fun gg i wr => ∃ k : Nat, k ≤ f.code.length ∧ gg = f.code.length - k ∧ i = .int .i64 k ∧ Hid ((f.code.take k).all (nameOk m f.slots f.code.length) = true) ∧ Hid (Below w.heap.size w wr))
  case atStart => exact ⟨0, Nat.zero_le _, rfl, rfl, rfl, Below.refl _ _⟩
  case round =>
    obtain ⟨k, hk, rfl, rfl, HA, HB⟩ := hrel
    by_cases hlt : k < f.code.length
    · have hx : f.code[k]? = some (f.code[k]'hlt) := List.getElem?_eq_getElem _
      generalize (f.code[k]'hlt) = x at *
      obtain ⟨gb, go, rfl, j0, j1, j2⟩ := InstrsAt.row (unhide R3) hx hlt
      have l0 := cellk (unhide HB) j0 (cell_lt j0)
      have l1 := cellk (unhide HB) j1 (cell_lt j1)
      have l2 := cellk (unhide HB) j2 (cell_lt j2)
      have hk2 : (k : Int) < (f.code.length : Int) := by omega
      have HX := hide hx
      clear hx j0 j1 j2 c3 c4 c5
      have hxb := unhide HIN x (List.mem_of_getElem? (unhide HX))
      go_wp2_with fail
      refine (names_any (((unhide H).keep (unhide HB)).alloc _) (((unhide HF).keep (unhide HB)).alloc _) x hxb).mono ?_
      rintro e w2 ⟨rfl, hb2⟩
      have HB2 : Hid (Below w.heap.size w w2) := by
        have hz := (unhide HB).size
        exact ((unhide HB).alloc hz _).trans (hb2.mono (by simp; omega))
      clear hb2
      cases hn : nameOk m f.slots f.code.length x with
      | false =>
        have HE : Hid (namesOk m f = false) := by
          show namesOk m f = false
          unfold namesOk
          rw [all_of_take (unhide HX) hn]
          rfl
        go_wp2_with fail
        go_ret
        exact RightPost.mk (unhide HE).symm (unhide HB2)
      | true =>
        have HA2 : Hid ((f.code.take (k + 1)).all (nameOk m f.slots f.code.length) = true) := by
          show _ = true
          rw [all_take_succ (unhide HX), unhide HA, hn]
          rfl
        go_wp2_with fail
        go_roundg (f.code.length - (k + 1))
        case measure => omega
        case rel => exact ⟨k + 1, by omega, rfl, by go_num, unhide HA2, unhide HB2⟩
    · obtain rfl : k = f.code.length := by omega
      have hff : decide ((f.code.length : Int) < (f.code.length : Int)) = false := by simp
      have HA1 : Hid (f.code.all (nameOk m f.slots f.code.length) = true) := by
        have := unhide HA
        rwa [List.take_length] at this
      have d4 := cellk (unhide HB) c4 (cell_lt c4)
      have d5 := cellk (unhide HB) c5 (cell_lt c5)
      clear c3 c4 c5 HA hlt hk
      go_wp2_with fail
      go_loopg [31] f.hands.length (fun gg i wx => ∃ k : Nat, k ≤ f.hands.length ∧ gg = f.hands.length - k ∧ i = .int .i64 k ∧ Hid ((f.hands.take k).all (handOk f.code.length) = true) ∧ Hid (Below w.heap.size w wx))
      case atStart => exact ⟨0, Nat.zero_le _, rfl, rfl, rfl, unhide HB⟩
      case round =>
        obtain ⟨k, hk, rfl, rfl, HA, HB⟩ := hrel
        by_cases hlt : k < f.hands.length
        · have hx : f.hands[k]? = some (f.hands[k]'hlt) := List.getElem?_eq_getElem _
          generalize (f.hands[k]'hlt) = x at *
          obtain ⟨gb, go, rfl, j0, j1, j2⟩ := HandsAt.at (unhide R4) hx hlt
          have l0 := cellk (unhide HB) j0 (cell_lt j0)
          have l1 := cellk (unhide HB) j1 (cell_lt j1)
          have l2 := cellk (unhide HB) j2 (cell_lt j2)
          have e3 := cell_al (cellk (unhide HB) (unhide HC3) (cell_lt (unhide HC3)))
          have hk2 : (k : Int) < (f.hands.length : Int) := by omega
          have HX := hide hx
          have HBA : ∀ o, Hid (Below w.heap.size w (wr.alloc o)) := fun o => (unhide HB).alloc (unhide HB).size o
          have HFA : ∀ o, Hid (FnAt (wr.alloc o) fb fo C f) := fun o => ((unhide HF).keep (unhide HB)).alloc o
          clear hx j0 j1 j2 d4 d5
          cases hs : spanOk f.code.length x.fr x.to with
          | false =>
            have HE : Hid (namesOk m f = false) := by
              show namesOk m f = false
              unfold namesOk
              rw [all_of_take (unhide HX) (by unfold handOk; rw [hs]; rfl)]
              simp
            go_wp2_with fail
            go_quiet ((first | (go_at_call 43; exact Calls.quiet_of_same (span_at hs ((unhide (HFA _)).drewN _)))))
            go_wp2_with fail
            go_ret
            exact RightPost.mk (unhide HE).symm (Bl.drewN (unhide (HBA _)) _)
          | true =>
            cases hb : belowB x.tg f.code.length with
            | false =>
              have HE : Hid (namesOk m f = false) := by
                show namesOk m f = false
                unfold namesOk
                rw [all_of_take (unhide HX) (by unfold handOk; rw [hs, hb]; rfl)]
                simp
              go_wp2_with fail
              go_quiet ((first | (go_at_call 43; exact Calls.quiet_of_same (span_at hs ((unhide (HFA _)).drewN _))) | (go_at_call 41; exact Calls.quiet_of_same (below_at hb _))))
              go_wp2_with fail
              go_ret
              exact RightPost.mk (unhide HE).symm (Bl.drewN (unhide (HBA _)) _)
            | true =>
              have HA2 : Hid ((f.hands.take (k + 1)).all (handOk f.code.length) = true) := by
                show _ = true
                rw [all_take_succ (unhide HX), unhide HA]
                unfold handOk
                rw [hs, hb]
                rfl
              go_wp2_with fail
              go_quiet ((first | (go_at_call 43; exact Calls.quiet_of_same (span_at hs ((unhide (HFA _)).drewN _))) | (go_at_call 41; exact Calls.quiet_of_same (below_at hb _))))
              go_wp2_with fail
              go_roundg (f.hands.length - (k + 1))
              case measure => omega
              case rel => exact ⟨k + 1, by omega, rfl, by go_num, unhide HA2, Bl.drewN (unhide (HBA _)) _⟩
        · obtain rfl : k = f.hands.length := by omega
          have hff2 : decide ((f.hands.length : Int) < (f.hands.length : Int)) = false := by simp
          have HA3 : Hid (f.hands.all (handOk f.code.length) = true) := by
            have := unhide HA
            rwa [List.take_length] at this
          have d5 := cellk (unhide HB) (unhide HC5) (cell_lt (unhide HC5))
          clear d4 HA hlt hk
          go_wp2_with fail
          go_loopg [59] f.vars.length (fun gg i wx => ∃ k : Nat, k ≤ f.vars.length ∧ gg = f.vars.length - k ∧ i = .int .i64 k ∧ Hid ((f.vars.take k).all (varOk f.slots f.code.length) = true) ∧ Hid (Below w.heap.size w wx))
          case atStart => exact ⟨0, Nat.zero_le _, rfl, rfl, rfl, unhide HB⟩
          case round =>
            obtain ⟨k, hk, rfl, rfl, HA, HB⟩ := hrel
            by_cases hlt : k < f.vars.length
            · have hx : f.vars[k]? = some (f.vars[k]'hlt) := List.getElem?_eq_getElem _
              generalize (f.vars[k]'hlt) = x at *
              obtain ⟨gb, go, rfl, j0, j1, j2, j3, j4⟩ := VarsAt.at (unhide R5) hx hlt
              have l0 := cellk (unhide HB) j0 (cell_lt j0)
              have l1 := cellk (unhide HB) j1 (cell_lt j1)
              have l2 := cellk (unhide HB) j2 (cell_lt j2)
              have l3 := cellk (unhide HB) j3 (cell_lt j3)
              have l4 := cellk (unhide HB) j4 (cell_lt j4)
              have e2 := cell_al (cellk (unhide HB) (unhide HF).c2 (cell_lt (unhide HF).c2))
              have hk2 : (k : Int) < (f.vars.length : Int) := by omega
              have HX := hide hx
              have HBA : ∀ o, Hid (Below w.heap.size w (wr.alloc o)) := fun o => (unhide HB).alloc (unhide HB).size o
              have HFA : ∀ o, Hid (FnAt (wr.alloc o) fb fo C f) := fun o => ((unhide HF).keep (unhide HB)).alloc o
              clear hx j0 j1 j2 j3 j4 d5
              cases hb : belowB x.slot f.slots with
              | false =>
                have HE : Hid (namesOk m f = false) := by
                  show namesOk m f = false
                  unfold namesOk
                  rw [all_of_take (p := varOk f.slots f.code.length) (unhide HX) (by unfold varOk; rw [hb]; rfl)]
                  simp
                go_wp2_with fail
                go_quiet ((first | (go_at_call 41; exact Calls.quiet_of_same (below_at hb _))))
                go_wp2_with fail
                go_ret
                exact RightPost.mk (unhide HE).symm (Bl.drewN (unhide (HBA _)) _)
              | true =>
                cases hs : spanOk f.code.length x.fr x.to with
                | false =>
                  have HE : Hid (namesOk m f = false) := by
                    show namesOk m f = false
                    unfold namesOk
                    rw [all_of_take (p := varOk f.slots f.code.length) (unhide HX) (by unfold varOk; rw [hs, hb]; rfl)]
                    simp
                  go_wp2_with fail
                  go_quiet ((first | (go_at_call 43; exact Calls.quiet_of_same (span_at hs ((unhide (HFA _)).drewN _))) | (go_at_call 41; exact Calls.quiet_of_same (below_at hb _))))
                  go_wp2_with fail
                  go_ret
                  exact RightPost.mk (unhide HE).symm (Bl.drewN (unhide (HBA _)) _)
                | true =>
                  have HA2 : Hid ((f.vars.take (k + 1)).all (varOk f.slots f.code.length) = true) := by
                    show _ = true
                    rw [all_take_succ (unhide HX), unhide HA]
                    unfold varOk
                    rw [hs, hb]
                    rfl
                  go_wp2_with fail
                  go_quiet ((first | (go_at_call 43; exact Calls.quiet_of_same (span_at hs ((unhide (HFA _)).drewN _))) | (go_at_call 41; exact Calls.quiet_of_same (below_at hb _))))
                  go_wp2_with fail
                  go_roundg (f.vars.length - (k + 1))
                  case measure => omega
                  case rel => exact ⟨k + 1, by omega, rfl, by go_num, unhide HA2, Bl.drewN (unhide (HBA _)) _⟩
            · obtain rfl : k = f.vars.length := by omega
              have hff3 : decide ((f.vars.length : Int) < (f.vars.length : Int)) = false := by simp
              have HE : Hid (namesOk m f = true) := by
                show namesOk m f = true
                have := unhide HA
                rw [List.take_length] at this
                unfold namesOk
                rw [unhide HA1, unhide HA3, this]
                rfl
              clear d5 HA hlt hk
              go_wp2_with fail
              go_ret
              exact RightPost.mk (unhide HE).symm (unhide HB)
end Go.Proofs.YtpfhnmgfcmkidaaDoor
