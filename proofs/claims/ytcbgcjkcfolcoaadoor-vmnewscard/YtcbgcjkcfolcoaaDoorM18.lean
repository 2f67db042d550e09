/-
  The document's check of a function: names, and ways.
-/
import Derived.Test.YtcbgcjkcfolcoaaDoorM17
namespace Go.Proofs.YtcbgcjkcfolcoaaDoor
open Go.RowKit

/-- The world with the function's box: all that the walks read of it. -/
structure Bx (w0 : World) (fb : Nat) (b : Nat) (m : PM) (vf vc vk : Value) (f : PF) (g3 g4 g5 : Option Addr) (p3 p4 p5 : Nat) : Prop where
  box : ∃ t, w0.heap[fb]? = some (.cells #[.string f.name, .int .i64 f.params, .int .i64 f.slots, .slice g3 f.code.length p3, .slice g4 f.hands.length p4, .slice g5 f.vars.length p5] t (0, 0))
  img : ImgAt w0 b m vf vc vk
  r3 : RowsAt w0 g3 f.code.length 3 (instrRow f.code)
  r4 : RowsAt w0 g4 f.hands.length 3 (handRow f.hands)
  r5 : RowsAt w0 g5 f.vars.length 5 (varRow f.vars)
theorem Bx.keep {w0 w' : World} {fb b : Nat} {m : PM} {vf vc vk : Value} {f : PF} {g3 g4 g5 : Option Addr} {p3 p4 p5 : Nat} (h : Bx w0 fb b m vf vc vk f g3 g4 g5 p3 p4 p5) (hb : Below w0.heap.size w0 w') : Bx w' fb b m vf vc vk f g3 g4 g5 p3 p4 p5 := by
  obtain ⟨⟨t, h1⟩, h2, h3, h4, h5⟩ := h
  exact ⟨⟨t, (hb.block fb (hlt h1)).trans h1⟩, h2.keep hb, h3.keep hb, h4.keep hb, h5.keep hb⟩
theorem Bx.cells {w0 : World} {fb b : Nat} {m : PM} {vf vc vk : Value} {f : PF} {g3 g4 g5 : Option Addr} {p3 p4 p5 : Nat} (h : Bx w0 fb b m vf vc vk f g3 g4 g5 p3 p4 p5) :
    w0.cell? ⟨fb, 0, none⟩ = some (.string f.name) ∧ w0.cell? ⟨fb, 1, none⟩ = some (.int .i64 f.params) ∧ w0.cell? ⟨fb, 2, none⟩ = some (.int .i64 f.slots) ∧ w0.cell? ⟨fb, 3, none⟩ = some (.slice g3 f.code.length p3) ∧ w0.cell? ⟨fb, 4, none⟩ = some (.slice g4 f.hands.length p4) ∧ w0.cell? ⟨fb, 5, none⟩ = some (.slice g5 f.vars.length p5) := by
  obtain ⟨⟨t, h1⟩, _⟩ := h
  exact ⟨hcell h1 0, hcell h1 1, hcell h1 2, hcell h1 3, hcell h1 4, hcell h1 5⟩

theorem rcome_int {B : Nat} {w : World} {fb gb qb mb : Nat} {g : Option Addr} {N cap : Nat} {good : Bool} {f : Nat → Option Nat} (h : RSt B w fb gb qb mb g N cap good f) (hB : B ≤ w.heap.size) (hN : N ≤ 5000) (p n : Int) (hp0 : 0 ≤ p) (hp : p ≤ 5000) (hn0 : 0 ≤ n) (hn : n ≤ 1000) :
    Calls Tryd.prog 31 #[.int .i64 p, .int .i64 n, .pointer (some ⟨fb, 0, none⟩), .pointer (some ⟨gb, 0, none⟩), .pointer (some ⟨qb, 0, none⟩)] w fun e w' => RCome B w fb gb qb mb g N cap good f p.toNat n.toNat e w' := by
  obtain ⟨P, rfl⟩ := Int.eq_ofNat_of_zero_le hp0
  obtain ⟨M, rfl⟩ := Int.eq_ofNat_of_zero_le hn0
  exact rcome_any h hB hN P M (by omega) (by omega)
theorem EffAsk.drewN {w : World} {b : Nat} {m : PM} {vf vc vk : Value} {f : PF} {g3 g4 g5 : Option Addr} {p3 p4 p5 : Nat} (h : EffAsk w b m vf vc vk f g3 g4 g5 p3 p4 p5) (n : Nat) : EffAsk (w.drewN n) b m vf vc vk f g3 g4 g5 p3 p4 p5 := ⟨h.img.drewN n, h.h1, h.h2, h.h3, h.h4, h.h5, h.h6⟩
theorem EffAsk.drew {w : World} {b : Nat} {m : PM} {vf vc vk : Value} {f : PF} {g3 g4 g5 : Option Addr} {p3 p4 p5 : Nat} (h : EffAsk w b m vf vc vk f g3 g4 g5 p3 p4 p5) : EffAsk w.drew b m vf vc vk f g3 g4 g5 p3 p4 p5 := h.drewN 1
/-- Where the first of two comings leads to. -/
def toT (i : PI) (n : Nat) : List (Nat × Nat) := if 0 ≤ goesTo i then [((goesTo i).toNat, (n - takes i + there i).toNat)] else []
theorem nexts_toT {i : PI} {p n : Nat} {x : Nat × Nat} (h : x ∈ nexts i p n) : x ∈ toT i n ∨ (goesOn i = true ∧ x = (p + 1, (n - takes i + leaves i).toNat)) := by
  unfold nexts at h
  rcases List.mem_append.1 h with h | h
  · exact Or.inl h
  · right
    split at h
    · rename_i hg
      exact ⟨hg, List.mem_singleton.1 h⟩
    · cases h
theorem Ahead.after {B : Nat} {w w' : World} {fb gb qb mb : Nat} {g : Option Addr} {cap : Nat} {good : Bool} {c : List PI} {hs : List PH} {f : Nat → Option Nat} {k : Nat} {x : PH} {e : Ending} (h : Ahead c hs k f good) (hx : hs[k]? = some x) (hc : RCome B w fb gb qb mb g c.length cap good f x.tg.toNat 1 e w') :
    Below B w w' ∧ ∃ r good' f', e = .returned (.bool r) ∧ RSt B w' fb gb qb mb g c.length cap good' f' ∧ Ahead c hs (k + 1) f' good' := by
  obtain ⟨hb, hc⟩ := hc
  obtain ⟨a1, a2, a3⟩ := h.come hx
  refine ⟨hb, ?_⟩
  rcases hc with ⟨h1, rfl, h2⟩ | ⟨h1, rfl, h2⟩ | ⟨h1, h3, rfl, h2⟩
  · exact ⟨_, _, _, rfl, h2, a1 h1⟩
  · exact ⟨_, _, _, rfl, h2, a2 h1⟩
  · exact ⟨_, _, _, rfl, h2, a3 h1 h3⟩
theorem Pass.after {B : Nat} {w w' : World} {fb gb qb mb : Nat} {g : Option Addr} {cap : Nat} {good again : Bool} {c : List PI} {hs : List PH} {U p : Nat} {T : List (Nat × Nat)} {f : Nat → Option Nat} {q k : Nat} {e : Ending} (h : Pass c hs U p f good again T) (hr : Reach c hs q k) (hc : RCome B w fb gb qb mb g c.length cap good f q k e w') :
    Below B w w' ∧ ∃ r good' f', e = .returned (.bool r) ∧ RSt B w' fb gb qb mb g c.length cap good' f' ∧ Pass c hs U p f' good' (again || r) ((q, k) :: T) ∧ Mono f f' := by
  obtain ⟨hb, hc⟩ := hc
  obtain ⟨a1, a2, a3⟩ := h.come hr
  refine ⟨hb, ?_⟩
  rcases hc with ⟨h1, rfl, h2⟩ | ⟨h1, rfl, h2⟩ | ⟨h1, h3, rfl, h2⟩
  · exact ⟨false, _, _, rfl, h2, by rw [Bool.or_false]; exact a1 h1, Mono.refl f⟩
  · exact ⟨false, _, _, rfl, h2, by rw [Bool.or_false]; exact a2 h1, Mono.refl f⟩
  · exact ⟨true, _, _, rfl, h2, by rw [Bool.or_true]; exact (a3 h1 h3).1, (a3 h1 h3).2⟩

theorem span_parts {n : Nat} {fr hi : Int} (h : spanOk n fr hi = true) : 0 ≤ fr ∧ fr ≤ hi ∧ hi ≤ n := by simpa [spanOk] using h

set_option maxRecDepth 100000 in
set_option maxHeartbeats 20000000 in
theorem rfun_any {w : World} {b : Nat} {m : PM} {vf vc vk : Value} {f : PF} {g3 g4 g5 : Option Addr} {p3 p4 p5 : Nat} (h : FunAsk w b m vf vc vk f g3 g4 g5 p3 p4 p5) (hs : sizeOk f = true) :
    Calls Tryd.prog 18 #[.pointer (some ⟨b, 0, none⟩), .agg #[.string f.name, .int .i64 f.params, .int .i64 f.slots, .slice g3 f.code.length p3, .slice g4 f.hands.length p4, .slice g5 f.vars.length p5]] w fun e w' => RFnPost m f w e w' := by
  obtain ⟨hI, h1, h2, h3, hc, hh, hv, hin⟩ := h
  have hs2 : (inB f.code.length 1 5000 && inB f.params 0 8 && inB f.slots f.params 200) = true := hs
  simp only [Bool.and_eq_true] at hs2
  obtain ⟨⟨q1, q2⟩, q3⟩ := hs2
  have z1 := inB_true q1
  have z2 := inB_true q2
  have z3 := inB_true q3
  have y1 : 1 ≤ f.code.length := by omega
  have y2 : f.code.length ≤ 5000 := by omega
  have y3 : 0 ≤ f.slots := by omega
  have y4 : f.slots ≤ 200 := by omega
  obtain ⟨_, n3, r3⟩ := len_form hc
  obtain ⟨_, n4, r4⟩ := len_form hh
  obtain ⟨_, n5, r5⟩ := len_form hv
  have HS := hide hs
  have HIN := hide hin
  obtain ⟨w0, hw0⟩ : ∃ w0, w.alloc (.cells #[.string f.name, .int .i64 f.params, .int .i64 f.slots, .slice g3 f.code.length p3, .slice g4 f.hands.length p4, .slice g5 f.vars.length p5] 81) = w0 := ⟨_, rfl⟩
  have hb0 : Below w.heap.size w w0 := by rw [← hw0]; exact (Below.refl _ _).alloc (Nat.le_refl _) _
  have HX : Hid (Bx w0 w.heap.size b m vf vc vk f g3 g4 g5 p3 p4 p5) := ⟨⟨_, by rw [← hw0]; exact hnew _ _⟩, hI.keep hb0, r3.keep hb0, r4.keep hb0, r5.keep hb0⟩
  obtain ⟨k0, k1, k2, k3, k4, k5⟩ := (unhide HX).cells
  have HB0 := hide hb0
  have HW0 := hide hw0
  have hsz0 : w.heap.size < w0.heap.size := by rw [← hw0]; simp
  clear hI hc hh hv hin hs r3 r4 r5 hb0 hw0 z1 z2 z3
  go_enter Tryd.func18, Tryd.ntmps18
  go_wp2_with fail
  rw [unhide HW0]
  refine (within_is q1 _).mono ?_
  rintro e wa ⟨rfl, rfl⟩
  go_wp2_with fail
  refine (within_is q2 _).mono ?_
  rintro e wa ⟨rfl, rfl⟩
  go_wp2_with fail
  refine (within_is q3 _).mono ?_
  rintro e wa ⟨rfl, rfl⟩
  clear q1 q2 q3
  go_wp2_with fail
  go_loopg [54] f.code.length (fun gg i wr => ∃ k : Nat, k ≤ f.code.length ∧ gg = f.code.length - k ∧ i = .int .i64 k ∧ Hid ((f.code.take k).all (nameOk m f.slots f.code.length) = true) ∧ Hid (Below w0.heap.size w0 wr))
  case atStart => exact ⟨0, Nat.zero_le _, rfl, rfl, rfl, Below.refl _ _⟩
  case round =>
    obtain ⟨k, hk, rfl, rfl, HA, HB⟩ := hrel
    by_cases hlt : k < f.code.length
    · have hx : f.code[k]? = some (f.code[k]'hlt) := List.getElem?_eq_getElem _
      generalize (f.code[k]'hlt) = x at *
      obtain ⟨gb, go, rfl, j0, j1, j2⟩ := InstrsAt.row (unhide HX).r3 hx hlt
      have l0 := cellk (unhide HB) j0 (cell_lt j0)
      have l1 := cellk (unhide HB) j1 (cell_lt j1)
      have l2 := cellk (unhide HB) j2 (cell_lt j2)
      have e0 := cell_al (cellk (unhide HB) k0 (cell_lt k0))
      have e1 := cell_al (cellk (unhide HB) k1 (cell_lt k1))
      have e2 := cell_al (cellk (unhide HB) k2 (cell_lt k2))
      have e3 := cell_al (cellk (unhide HB) k3 (cell_lt k3))
      have e4 := cell_al (cellk (unhide HB) k4 (cell_lt k4))
      have e5 := cell_al (cellk (unhide HB) k5 (cell_lt k5))
      have hk2 : (k : Int) < (f.code.length : Int) := by omega
      have HX1 := hide hx
      have hxb := unhide HIN x (List.mem_of_getElem? (unhide HX1))
      clear hx j0 j1 j2 k0 k1 k2 k3 k4 k5
      go_wp2_with fail
      refine (effect_any ⟨((unhide HX).img.keep (unhide HB)).alloc _, h1, h2, h3, y2, y3, y4⟩ x hxb).mono ?_
      rintro e w2 ⟨t, l, to', th, on, rfl, _, hb2⟩
      have HB2 : Hid (Below w0.heap.size w0 w2) := by
        have hz := (unhide HB).size
        exact ((unhide HB).alloc hz _).trans (hb2.mono (by simp; omega))
      clear hb2
      cases hn : nameOk m f.slots f.code.length x with
      | false =>
        have HE : Hid (namesOk m f = false) := by
          show namesOk m f = false
          unfold namesOk
          rw [all_of_take (unhide HX1) hn]
          rfl
        go_wp2_with fail
        go_ret
        exact RFnPost.mk ((unhide HB0).trans ((unhide HB2).mono (unhide HB0).size)) (Or.inr (Or.inl ⟨unhide HS, unhide HE, rfl⟩))
      | true =>
        have HA2 : Hid ((f.code.take (k + 1)).all (nameOk m f.slots f.code.length) = true) := by
          show _ = true
          rw [all_take_succ (unhide HX1), unhide HA, hn]
          rfl
        go_wp2_with fail
        go_roundg (f.code.length - (k + 1))
        case measure => omega
        case rel => exact ⟨k + 1, by omega, rfl, by go_num, unhide HA2, unhide HB2⟩
    · obtain rfl : k = f.code.length := by omega
      have hff : decide ((f.code.length : Int) < (f.code.length : Int)) = false := by simp
      have HA1 : Hid (f.code.all (nameOk m f.slots f.code.length) = true) := by
        have := unhide HA
        rwa [List.take_length] at this
      have d4 := cellk (unhide HB) k4 (cell_lt k4)
      have K3 := hide k3
      have K5 := hide k5
      have K4 := hide k4
      clear k0 k1 k3 k4 k5 HA hlt hk
      have K2 := hide k2
      clear k2
      go_wp2_with fail
      go_loopg [75] f.hands.length (fun gg i wx => ∃ k : Nat, k ≤ f.hands.length ∧ gg = f.hands.length - k ∧ i = .int .i64 k ∧ Hid ((f.hands.take k).all (handOk f.code.length) = true) ∧ Hid (Below w0.heap.size w0 wx))
      case atStart => exact ⟨0, Nat.zero_le _, rfl, rfl, rfl, unhide HB⟩
      case round =>
        obtain ⟨k, hk, rfl, rfl, HA, HB⟩ := hrel
        by_cases hlt : k < f.hands.length
        · have hx : f.hands[k]? = some (f.hands[k]'hlt) := List.getElem?_eq_getElem _
          generalize (f.hands[k]'hlt) = x at *
          obtain ⟨gb, go, rfl, j0, j1, j2⟩ := HandsAt.at (unhide HX).r4 hx hlt
          have l0 := cellk (unhide HB) j0 (cell_lt j0)
          have l1 := cellk (unhide HB) j1 (cell_lt j1)
          have l2 := cellk (unhide HB) j2 (cell_lt j2)
          have e3 := cell_al (cellk (unhide HB) (unhide K3) (cell_lt (unhide K3)))
          have hk2 : (k : Int) < (f.hands.length : Int) := by omega
          have HX1 := hide hx
          have HBA : ∀ o, Hid (Below w0.heap.size w0 (wr.alloc o)) := fun o => (unhide HB).alloc (unhide HB).size o
          have HNO : Hid (handOk f.code.length x = false → RFnPost m f w (.returned (.int .i64 2)) (wr.alloc (.cells #[.int .i64 x.fr, .int .i64 x.to, .int .i64 x.tg] 91))) := fun hno =>
            RFnPost.mk ((unhide HB0).trans ((unhide (HBA _)).mono (unhide HB0).size)) (Or.inr (Or.inl ⟨unhide HS, (by unfold namesOk; rw [all_of_take (unhide HX1) hno]; simp), rfl⟩))
          have HOK : Hid (handOk f.code.length x = true → (f.hands.take (k + 1)).all (handOk f.code.length) = true) := fun hy => by
            rw [all_take_succ (unhide HX1), unhide HA, hy]
            rfl
          clear hx j0 j1 j2 d4
          by_cases s1 : x.fr < 0
          · have b1 : decide (x.fr < 0) = true := by simpa using s1
            go_wp2_with fail
            go_ret
            exact unhide HNO (by simp [handOk, spanOk]; omega)
          · have b1 : decide (x.fr < 0) = false := by simpa using s1
            by_cases s2 : x.to < x.fr
            · have b2 : decide (x.to < x.fr) = true := by simpa using s2
              go_wp2_with fail
              go_ret
              exact unhide HNO (by simp [handOk, spanOk]; omega)
            · have b2 : decide (x.to < x.fr) = false := by simpa using s2
              by_cases s3 : (f.code.length : Int) < x.to
              · have b3 : decide ((f.code.length : Int) < x.to) = true := by simpa using s3
                go_wp2_with fail
                go_ret
                exact unhide HNO (by simp [handOk, spanOk]; omega)
              · have b3 : decide ((f.code.length : Int) < x.to) = false := by simpa using s3
                have HSP : Hid (spanOk f.code.length x.fr x.to = true) := by
                  show _ = true
                  simp [spanOk]; omega
                cases hb : belowB x.tg f.code.length with
                | false =>
                  go_wp2_with fail
                  refine (within_bl hb _).mono ?_
                  rintro e wa ⟨rfl, rfl⟩
                  go_wp2_with fail
                  go_ret
                  exact unhide HNO (by unfold handOk; rw [hb]; simp)
                | true =>
                  go_wp2_with fail
                  refine (within_bl hb _).mono ?_
                  rintro e wa ⟨rfl, rfl⟩
                  go_wp2_with fail
                  go_roundg (f.hands.length - (k + 1))
                  case measure => omega
                  case rel => exact ⟨k + 1, by omega, rfl, by go_num, unhide HOK (by unfold handOk; rw [unhide HSP, hb]; rfl), unhide (HBA _)⟩
        · obtain rfl : k = f.hands.length := by omega
          have hff2 : decide ((f.hands.length : Int) < (f.hands.length : Int)) = false := by simp
          have HA3 : Hid (f.hands.all (handOk f.code.length) = true) := by
            have := unhide HA
            rwa [List.take_length] at this
          have d5 := cellk (unhide HB) (unhide K5) (cell_lt (unhide K5))
          clear d4 HA hlt hk
          go_wp2_with fail
          go_loopg [111] f.vars.length (fun gg i wx => ∃ k : Nat, k ≤ f.vars.length ∧ gg = f.vars.length - k ∧ i = .int .i64 k ∧ Hid ((f.vars.take k).all (varOk f.slots f.code.length) = true) ∧ Hid (Below w0.heap.size w0 wx))
          case atStart => exact ⟨0, Nat.zero_le _, rfl, rfl, rfl, unhide HB⟩
          case round =>
            obtain ⟨k, hk, rfl, rfl, HA, HB⟩ := hrel
            by_cases hlt : k < f.vars.length
            · have hx : f.vars[k]? = some (f.vars[k]'hlt) := List.getElem?_eq_getElem _
              generalize (f.vars[k]'hlt) = x at *
              obtain ⟨gb, go, rfl, j0, j1, j2, j3, j4⟩ := VarsAt.at (unhide HX).r5 hx hlt
              have l0 := cellk (unhide HB) j0 (cell_lt j0)
              have l1 := cellk (unhide HB) j1 (cell_lt j1)
              have l2 := cellk (unhide HB) j2 (cell_lt j2)
              have l3 := cellk (unhide HB) j3 (cell_lt j3)
              have l4 := cellk (unhide HB) j4 (cell_lt j4)
              have e2 := cell_al (cellk (unhide HB) (unhide K2) (cell_lt (unhide K2)))
              have e3 := cell_al (cellk (unhide HB) (unhide K3) (cell_lt (unhide K3)))
              have hk2 : (k : Int) < (f.vars.length : Int) := by omega
              have HX1 := hide hx
              have HBA : ∀ o, Hid (Below w0.heap.size w0 (wr.alloc o)) := fun o => (unhide HB).alloc (unhide HB).size o
              have HNO : Hid (varOk f.slots f.code.length x = false → RFnPost m f w (.returned (.int .i64 2)) (wr.alloc (.cells #[.string x.name, .int .i64 x.slot, .int .i64 x.fr, .int .i64 x.to, .bool x.boxed] 94))) := fun hno =>
                RFnPost.mk ((unhide HB0).trans ((unhide (HBA _)).mono (unhide HB0).size)) (Or.inr (Or.inl ⟨unhide HS, (by unfold namesOk; rw [all_of_take (p := varOk f.slots f.code.length) (unhide HX1) hno]; simp), rfl⟩))
              have HOK : Hid (varOk f.slots f.code.length x = true → (f.vars.take (k + 1)).all (varOk f.slots f.code.length) = true) := fun hy => by
                rw [all_take_succ (unhide HX1), unhide HA, hy]
                rfl
              clear hx j0 j1 j2 j3 j4 d5
              cases hb : belowB x.slot f.slots with
              | false =>
                go_wp2_with fail
                refine (within_bl hb _).mono ?_
                rintro e wa ⟨rfl, rfl⟩
                go_wp2_with fail
                go_ret
                exact unhide HNO (by unfold varOk; rw [hb]; simp)
              | true =>
                by_cases s1 : x.fr < 0
                · have b1 : decide (x.fr < 0) = true := by simpa using s1
                  go_wp2_with fail
                  refine (within_bl hb _).mono ?_
                  rintro e wa ⟨rfl, rfl⟩
                  go_wp2_with fail
                  go_ret
                  exact unhide HNO (by simp [varOk, spanOk]; omega)
                · have b1 : decide (x.fr < 0) = false := by simpa using s1
                  by_cases s2 : x.to < x.fr
                  · have b2 : decide (x.to < x.fr) = true := by simpa using s2
                    go_wp2_with fail
                    refine (within_bl hb _).mono ?_
                    rintro e wa ⟨rfl, rfl⟩
                    go_wp2_with fail
                    go_ret
                    exact unhide HNO (by simp [varOk, spanOk]; omega)
                  · have b2 : decide (x.to < x.fr) = false := by simpa using s2
                    by_cases s3 : (f.code.length : Int) < x.to
                    · have b3 : decide ((f.code.length : Int) < x.to) = true := by simpa using s3
                      go_wp2_with fail
                      refine (within_bl hb _).mono ?_
                      rintro e wa ⟨rfl, rfl⟩
                      go_wp2_with fail
                      go_ret
                      exact unhide HNO (by simp [varOk, spanOk]; omega)
                    · have b3 : decide ((f.code.length : Int) < x.to) = false := by simpa using s3
                      have HSP : Hid (spanOk f.code.length x.fr x.to = true) := by
                        show _ = true
                        simp [spanOk]; omega
                      go_wp2_with fail
                      refine (within_bl hb _).mono ?_
                      rintro e wa ⟨rfl, rfl⟩
                      go_wp2_with fail
                      go_roundg (f.vars.length - (k + 1))
                      case measure => omega
                      case rel => exact ⟨k + 1, by omega, rfl, by go_num, unhide HOK (by unfold varOk; rw [unhide HSP, hb]; rfl), unhide (HBA _)⟩
            · obtain rfl : k = f.vars.length := by omega
              have hff3 : decide ((f.vars.length : Int) < (f.vars.length : Int)) = false := by simp
              have HN : Hid (namesOk m f = true) := by
                show namesOk m f = true
                have := unhide HA
                rw [List.take_length] at this
                unfold namesOk
                rw [unhide HA1, unhide HA3, this]
                rfl
              clear d5 HA hlt hk HA1 HA3
              have hmm := @run_makeMap Tryd.prog
              have hmf := mkf
              obtain ⟨w1, hput0, hm1, hg1⟩ := (MapAt.made wr).put (p := 0) (k := 0) (by omega) (by omega) (by omega)
              have hput : (Go.Instr.mapUpdate 106 (.map (some wr.heap.size)) (.int .i64 0) (.int .i64 0)).run Tryd.prog (wr.alloc (.map #[] 0)) = .ok () w1 := hput0
              have hz1 : wr.heap.size + 1 ≤ w1.heap.size := by have := hg1.size; simpa using this
              have hzr : w0.heap.size ≤ wr.heap.size := (unhide HB).size
              have HB1 : Hid (Below w0.heap.size w0 w1) := ((unhide HB).alloc hzr _).grown hg1 (by simp; omega) (fun k hk => by cases hk; exact hzr)
              have HB4 : ∀ o p, Hid (Below w0.heap.size w0 ((w1.alloc o).alloc p)) := fun o p => ((unhide HB1).alloc (unhide HB1).size o).alloc (by simp; have := (unhide HB1).size; omega) p
              have e4 : ∀ o p, ((w1.alloc o).alloc p).cell? ⟨w.heap.size, 4, none⟩ = some (.slice g4 f.hands.length p4) := fun o p => cellk (unhide (HB4 o p)) (unhide K4) (cell_lt (unhide K4))
              have HR4 : ∀ t1 t2, Hid (RSt w0.heap.size ((w1.alloc (.cells #[.map (some wr.heap.size)] t1)).alloc (.cells #[.bool true] t2)) w.heap.size (w1.heap.size + 1) w1.heap.size wr.heap.size g3 f.code.length p3 true (upd (fun _ => none) 0 0)) := fun t1 t2 => by
                have hs1 : (w1.alloc (.cells #[.map (some wr.heap.size)] t1)).heap.size = w1.heap.size + 1 := by simp
                have hmb : MapAt w1 wr.heap.size (upd (fun _ => none) 0 0) (f.code.length - unset (upd (fun _ => none) 0 0) f.code.length) := by
                  have e := unset_upd (f := fun _ => none) (p := 0) (n := 0) rfl f.code.length (by omega)
                  rw [unset_none] at e
                  rw [show f.code.length - unset (upd (fun _ => none) 0 0) f.code.length = 0 + 1 by omega]
                  exact hm1
                refine ⟨cellk (unhide (HB4 _ _)) (unhide K3) (cell_lt (unhide K3)), ⟨t2, by rw [← hs1]; exact hnew _ _⟩, cell_al (hcell (hnew _ _) 0) _, hmb.keep ?_, ?_, ?_, ?_, ?_, ?_, ?_, ?_⟩
                · rw [Below.heap_alloc _ _ _ (by rw [hs1]; omega), Below.heap_alloc _ _ _ (by omega)]
                all_goals omega
              have HM1 := hide hput0
              clear hput0 hm1 HM1
              have HG1 := hide hg1
              clear hg1
              go_wp2_with fail
              have hmbf : wr.heap.size ≠ w.heap.size := by omega
              have HMBF := hide hmbf
              clear hmbf hput hmm HG1
              generalize wr.heap.size = mb at *
              generalize w1.heap.size = qb at *
              go_loopg [149] f.hands.length (fun gg i wx => ∃ k : Nat, k ≤ f.hands.length ∧ gg = f.hands.length - k ∧ i = .int .i64 k ∧ Hid (Below w0.heap.size w0 wx) ∧ Hid (∃ good fm, RSt w0.heap.size wx w.heap.size (qb + 1) qb mb g3 f.code.length p3 good fm ∧ Ahead f.code f.hands k fm good))
              case atStart => exact ⟨0, Nat.zero_le _, rfl, rfl, unhide (HB4 _ _), true, _, unhide (HR4 _ _), Ahead.start y1⟩
              case round =>
                obtain ⟨k, hk, rfl, rfl, HB, HY⟩ := hrel
                obtain ⟨good, fm, hr, ha⟩ := unhide HY
                have HR := hide hr
                have HA := hide ha
                clear hr ha HY e4
                by_cases hlt : k < f.hands.length
                · have hx : f.hands[k]? = some (f.hands[k]'hlt) := List.getElem?_eq_getElem _
                  generalize (f.hands[k]'hlt) = x at *
                  obtain ⟨gb, go, rfl, j0, j1, j2⟩ := HandsAt.at (unhide HX).r4 hx hlt
                  have l0 := cellk (unhide HB) j0 (cell_lt j0)
                  have l1 := cellk (unhide HB) j1 (cell_lt j1)
                  have l2 := cellk (unhide HB) j2 (cell_lt j2)
                  have hk2 : (k : Int) < (f.hands.length : Int) := by omega
                  obtain ⟨ht1, ht2⟩ := names_hand (unhide HN) hx
                  have HX1 := hide hx
                  clear hx j0 j1 j2
                  go_wp2_with fail
                  have hba : Below wr.heap.size wr (wr.alloc (.cells #[.int .i64 x.fr, .int .i64 x.to, .int .i64 x.tg] 91)) := (Below.refl _ _).alloc (Nat.le_refl _) _
                  refine (rcome_int ((unhide HR).keep hba) (Nat.le_trans (unhide HB).size hba.size) y2 _ 1 (by omega) (by omega) (by omega) (by omega)).mono ?_
                  rintro e w3 hc
                  obtain ⟨hb3, r, good', f', rfl, hr3, ha3⟩ := (unhide HA).after (unhide HX1) hc
                  have HB3 := hide (((unhide HB).trans (hba.mono (unhide HB).size)).trans hb3)
                  have HR3 := hide hr3
                  have HA3 := hide ha3
                  clear hb3 hba hc hr3 ha3
                  go_wp2_with fail
                  go_roundg (f.hands.length - (k + 1))
                  case measure => omega
                  case rel => exact ⟨k + 1, by omega, rfl, by go_num, unhide HB3, good', f', unhide HR3, unhide HA3⟩
                · obtain rfl : k = f.hands.length := by omega
                  have hff4 : decide ((f.hands.length : Int) < (f.hands.length : Int)) = false := by simp
                  have HP := hide ((unhide HA).pass (f.code.length + 1) f.code.length (by have := unset_le fm f.code.length; omega))
                  clear hlt hk HA
                  go_wp2_with fail
                  go_loopg [22] (f.code.length + 1) (fun gk a wx => ∃ ag, a = .bool ag ∧ Hid (Below w0.heap.size w0 wx) ∧ Hid (∃ good fm, RSt w0.heap.size wx w.heap.size (qb + 1) qb mb g3 f.code.length p3 good fm ∧ Pass f.code f.hands gk f.code.length fm good ag []))
                  case atStart => exact ⟨true, rfl, unhide HB, good, fm, unhide HR, unhide HP⟩
                  case round =>
                    obtain ⟨ag, rfl, HB, HY⟩ := hrel
                    obtain ⟨good, fm, hr, hp⟩ := unhide HY
                    have HR := hide hr
                    have HP := hide hp
                    obtain ⟨tg, hgd⟩ := hr.gc
                    have gcell : wr.cell? ⟨qb + 1, 0, none⟩ = some (.bool good) := hcell hgd 0
                    clear hr hp HY hgd
                    cases good with
                    | false =>
                      have HBAD := hide ((unhide HP).bad rfl)
                      cases ag with
                      | false =>
                        go_wp2_with fail
                        go_ret
                        exact RFnPost.mk ((unhide HB0).trans ((unhide HB).mono (unhide HB0).size)) (Or.inr (Or.inr (Or.inl ⟨unhide HS, unhide HN, unhide HBAD, rfl⟩)))
                      | true =>
                        go_wp2_with fail
                        go_ret
                        exact RFnPost.mk ((unhide HB0).trans ((unhide HB).mono (unhide HB0).size)) (Or.inr (Or.inr (Or.inl ⟨unhide HS, unhide HN, unhide HBAD, rfl⟩)))
                    | true =>
                      cases ag with
                      | false =>
                        have HG := hide (unhide HP).good
                        go_wp2_with fail
                        go_ret
                        exact RFnPost.mk ((unhide HB0).trans ((unhide HB).mono (unhide HB0).size)) (Or.inr (Or.inr (Or.inr ⟨unhide HS, unhide HN, unhide HG, rfl⟩)))
                      | true =>
                        have HLT := hide ((unhide HP).lt rfl)
                        have HP0 := hide (unhide HP).again
                        have e3 := cellk (unhide HB) (unhide K3) (cell_lt (unhide K3))
                        obtain ⟨U, hU⟩ : ∃ U, unset fm f.code.length = U := ⟨_, rfl⟩
                        rw [hU] at HLT HP0
                        clear hU HP
                        go_wp2_with fail
                        go_loopg [22, 165] f.code.length (fun g2 a i wx => ∃ (k : Nat) (ag : Bool), k ≤ f.code.length ∧ g2 = f.code.length - k ∧ i = .int .i64 k ∧ a = .bool ag ∧ Hid (Below w0.heap.size w0 wx) ∧ Hid (∃ good fm, RSt w0.heap.size wx w.heap.size (qb + 1) qb mb g3 f.code.length p3 good fm ∧ Pass f.code f.hands U k fm good ag []))
                        case atStart => exact ⟨0, false, Nat.zero_le _, rfl, rfl, rfl, unhide HB, true, fm, unhide HR, unhide HP0⟩
                        case round =>
                          obtain ⟨k, ag, hk, rfl, rfl, rfl, HB, HY⟩ := hrel
                          clear e3 HR HP0
                          obtain ⟨good, fm, hr, hp⟩ := unhide HY
                          have HR := hide hr
                          have HP := hide hp
                          obtain ⟨tg, hgd⟩ := hr.gc
                          have gcell : wr.cell? ⟨qb + 1, 0, none⟩ = some (.bool good) := hcell hgd 0
                          have qcell := hr.qc
                          by_cases hlt : k < f.code.length
                          · obtain ⟨l1, l2⟩ := hr.mc.look (p := k) (by omega)
                            have hk2 : (k : Int) < (f.code.length : Int) := by omega
                            clear hr hp HY hgd
                            cases hf : fm k with
                            | none =>
                              obtain ⟨c, hrun⟩ := l2 hf
                              have HNX := hide ((unhide HP).skip (Or.inl hf))
                              clear l1 l2 hf
                              go_wp2_with fail
                              go_roundg (f.code.length - (k + 1))
                              case measure => omega
                              case rel => exact ⟨k + 1, ag, by omega, rfl, by go_num, rfl, unhide HB, good, fm, unhide HR, unhide HNX⟩
                            | some n =>
                              have hrun := l1 n hf
                              have HFK := hide hf
                              clear l1 l2 hf
                              cases good with
                              | false =>
                                have HNX := hide ((unhide HP).skip (Or.inr rfl))
                                go_wp2_with fail
                                go_roundg (f.code.length - (k + 1))
                                case measure => omega
                                case rel => exact ⟨k + 1, ag, by omega, rfl, by go_num, rfl, unhide HB, false, fm, unhide HR, unhide HNX⟩
                              | true =>
                                have hx : f.code[k]? = some (f.code[k]'hlt) := List.getElem?_eq_getElem _
                                generalize (f.code[k]'hlt) = x at *
                                have hok := names_instr (unhide HN) hx
                                obtain ⟨tb1, tb2⟩ := takes_bound hok
                                obtain ⟨lb1, lb2⟩ := leaves_bound x
                                obtain ⟨hb1, hb2⟩ := there_bound x
                                have hgo := goesTo_bound hok
                                have hn200 := ((unhide HP).known.bound k n (unhide HFK)).2
                                obtain ⟨gb, go, rfl, j0, j1, j2⟩ := InstrsAt.row (unhide HX).r3 hx hlt
                                have i0 := cellk (unhide HB) j0 (cell_lt j0)
                                have i1 := cellk (unhide HB) j1 (cell_lt j1)
                                have i2 := cellk (unhide HB) j2 (cell_lt j2)
                                obtain ⟨e0, e1, e2, e3, e4, e5⟩ := ((unhide HX).keep (unhide HB)).cells
                                have HX1 := hide hx
                                have HRE : Hid (Reach f.code f.hands k n) := (unhide HP).known.reach k n (unhide HFK)
                                have HGO := hide hgo
                                have HIB := hide (unhide HIN x (List.mem_of_getElem? hx))
                                have HASK : Hid (EffAsk wr b m vf vc vk f (some ⟨gb, go, none⟩) g4 g5 p3 p4 p5) := ⟨(unhide HX).img.keep (unhide HB), h1, h2, h3, y2, y3, y4⟩
                                have HOK := hide hok
                                clear hx j0 j1 j2 hgo hok
                                go_wp2_with fail
                                go_cut [27, 28, 29, 30, 31] (fun t l to' th on wc => t = .int .i64 (takes x) ∧ l = .int .i64 (leaves x) ∧ to' = .int .i64 (goesTo x) ∧ th = .int .i64 (there x) ∧ on = .bool (goesOn x) ∧ Hid (Below wr.heap.size wr wc))
                                case first =>
                                  go_region_with (go_at_call 30; refine (effect_any ((unhide HASK).drew) x (unhide HIB)).mono ?_; rintro e w2 ⟨t', l', to2, th', on', rfl, himp, hb2⟩)
                                  all_goals
                                    obtain ⟨r1, r2, r3, r4, r5⟩ := himp (unhide HOK)
                                    subst r1 r2 r3 r4 r5
                                    have HB2 := hide hb2
                                    clear hb2
                                    go_wp2_with fail
                                    go_meet
                                    exact ⟨rfl, rfl, rfl, rfl, rfl, (Bl.drewN (Below.refl _ _) 1).trans (unhide HB2)⟩
                                obtain ⟨rfl, rfl, rfl, rfl, rfl, HBW⟩ := hcut
                                have HRW := hide ((unhide HR).keep (unhide HBW))
                                have HBB := hide ((unhide HB).trans ((unhide HBW).mono (unhide HB).size))
                                clear HR HB HASK i0 i1 i2 e0 e1 e2 e3 e4 e5 gcell qcell hrun HBW HIB
                                by_cases hsh : (n : Int) < takes x
                                · have bsh : decide ((n : Int) < takes x) = true := by simpa using hsh
                                  have HBAD := hide ((unhide HP).known.short (unhide HFK) (unhide HX1) hsh)
                                  go_wp2_with fail
                                  go_ret
                                  exact RFnPost.mk ((unhide HB0).trans ((unhide HBB).mono (unhide HB0).size)) (Or.inr (Or.inr (Or.inl ⟨unhide HS, unhide HN, unhide HBAD, rfl⟩)))
                                · have bsh : decide ((n : Int) < takes x) = false := by simpa using hsh
                                  have hge : takes x ≤ n := by omega
                                  have HGE := hide hge
                                  go_upto_region 41 with fail
                                  go_cut [209] (fun a wd => ∃ r, a = .bool r ∧ Hid (Below w0.heap.size w0 wd) ∧ Hid (∃ good2 f2, RSt w0.heap.size wd w.heap.size (qb + 1) qb mb (some ⟨gb, go, none⟩) f.code.length p3 good2 f2 ∧ Pass f.code f.hands U k f2 good2 (ag || r) (toT x n) ∧ Mono fm f2))
                                  case first =>
                                    by_cases hto : 0 ≤ goesTo x
                                    · have bto : decide (0 ≤ goesTo x) = true := by simpa using hto
                                      have hto2 : goesTo x ≤ 5000 := by have := unhide HGO; omega
                                      have HRE1 : Hid (Reach f.code f.hands (goesTo x).toNat ((n : Int) - takes x + there x).toNat) := (unhide HRE).next (unhide HX1) (unhide HGE) (nexts_mem.2 (Or.inl ⟨hto, rfl, rfl⟩))
                                      have HTT : Hid (toT x n = [((goesTo x).toNat, ((n : Int) - takes x + there x).toNat)]) := by
                                        show toT x n = _
                                        unfold toT; rw [if_pos hto]
                                      go_wp2_with fail
                                      refine (rcome_int (unhide HRW) (unhide HBB).size y2 _ _ (by omega) (by omega) (by omega) (by omega)).mono ?_
                                      rintro e w3 hc
                                      obtain ⟨hb3, r, good3, f3, rfl, hr3, hp3, hm3⟩ := (unhide HP).after (unhide HRE1) hc
                                      have HB3 := hide ((unhide HBB).trans hb3)
                                      have HR3 := hide hr3
                                      have HP3 : Hid (Pass f.code f.hands U k f3 good3 (ag || r) (toT x n)) := by
                                        show Pass _ _ _ _ _ _ _ _
                                        rw [unhide HTT]
                                        exact hp3
                                      have HM3 := hide hm3
                                      clear hc hb3 hr3 hp3 hm3
                                      go_wp2_with fail
                                      go_meet
                                      exact ⟨r, rfl, unhide HB3, good3, f3, unhide HR3, unhide HP3, unhide HM3⟩
                                    · have bto : decide (0 ≤ goesTo x) = false := by simpa using hto
                                      have HTT : Hid (toT x n = []) := by
                                        show toT x n = _
                                        unfold toT; rw [if_neg hto]
                                      go_wp2_with fail
                                      go_meet
                                      exact ⟨false, rfl, unhide HBB, true, fm, unhide HRW, by rw [unhide HTT, Bool.or_false]; exact unhide HP, Mono.refl _⟩
                                  obtain ⟨r, rfl, HB5, HZ⟩ := hcut
                                  cases r with
                                  | false =>
                                    obtain ⟨good2, f2, hr5, hp5, hm5⟩ := unhide HZ
                                    rw [Bool.or_false] at hp5
                                    have HR5 := hide hr5
                                    have HP5 := hide hp5
                                    have HM5 := hide hm5
                                    obtain ⟨tg5, hgd5⟩ := hr5.gc
                                    have gcell5 : wc.cell? ⟨qb + 1, 0, none⟩ = some (.bool good2) := hcell hgd5 0
                                    clear HZ hr5 hp5 hm5 hgd5 HRW HBB HP
                                    cases hon : goesOn x with
                                    | false =>
                                      have HNX := hide ((unhide HP5).next (unhide HM5 _ _ (unhide HFK)) (unhide HX1) (unhide HGE) (fun _ y hy => by
                                        rcases nexts_toT hy with h | ⟨h, _⟩
                                        · exact h
                                        · rw [hon] at h; cases h))
                                      go_wp2_with fail
                                      go_roundg (f.code.length - (k + 1))
                                      case measure => omega
                                      case rel => exact ⟨k + 1, ag, by omega, rfl, by go_num, rfl, unhide HB5, good2, f2, unhide HR5, unhide HNX⟩
                                    | true =>
                                      cases good2 with
                                      | false =>
                                        have HNX := hide ((unhide HP5).next (unhide HM5 _ _ (unhide HFK)) (unhide HX1) (unhide HGE) (fun e => by cases e))
                                        go_wp2_with fail
                                        go_roundg (f.code.length - (k + 1))
                                        case measure => omega
                                        case rel => exact ⟨k + 1, ag, by omega, rfl, by go_num, rfl, unhide HB5, false, f2, unhide HR5, unhide HNX⟩
                                      | true =>
                                        have HRE2 : Hid (Reach f.code f.hands ((k : Int) + 1).toNat ((n : Int) - takes x + leaves x).toNat) := (unhide HRE).next (unhide HX1) (unhide HGE) (nexts_mem.2 (Or.inr ⟨hon, by omega, rfl⟩))
                                        go_wp2_with fail
                                        refine (rcome_int (unhide HR5) (unhide HB5).size y2 _ _ (by omega) (by omega) (by omega) (by omega)).mono ?_
                                        rintro e w6 hc
                                        obtain ⟨hb6, r, good6, f6, rfl, hr6, hp6, hm6⟩ := (unhide HP5).after (unhide HRE2) hc
                                        have HB6 := hide ((unhide HB5).trans hb6)
                                        have HR6 := hide hr6
                                        have HNX := hide (hp6.next (hm6 _ _ (unhide HM5 _ _ (unhide HFK))) (unhide HX1) (unhide HGE) (fun _ y hy => by
                                          rcases nexts_toT hy with h | ⟨_, rfl⟩
                                          · exact List.mem_cons_of_mem _ h
                                          · rw [show ((k : Int) + 1).toNat = k + 1 by omega]; exact List.mem_cons_self))
                                        clear hc hb6 hr6 hp6 hm6
                                        cases r with
                                        | false =>
                                          go_wp2_with fail
                                          go_roundg (f.code.length - (k + 1))
                                          case measure => omega
                                          case rel => exact ⟨k + 1, ag, by omega, rfl, by go_num, rfl, unhide HB6, good6, f6, unhide HR6, by have := unhide HNX; rwa [Bool.or_false] at this⟩
                                        | true =>
                                          go_wp2_with fail
                                          go_roundg (f.code.length - (k + 1))
                                          case measure => omega
                                          case rel => exact ⟨k + 1, true, by omega, rfl, by go_num, rfl, unhide HB6, good6, f6, unhide HR6, by have := unhide HNX; rwa [Bool.or_true] at this⟩
                                  | true =>
                                    obtain ⟨good2, f2, hr5, hp5, hm5⟩ := unhide HZ
                                    rw [Bool.or_true] at hp5
                                    have HR5 := hide hr5
                                    have HP5 := hide hp5
                                    have HM5 := hide hm5
                                    obtain ⟨tg5, hgd5⟩ := hr5.gc
                                    have gcell5 : wc.cell? ⟨qb + 1, 0, none⟩ = some (.bool good2) := hcell hgd5 0
                                    clear HZ hr5 hp5 hm5 hgd5 HRW HBB HP
                                    cases hon : goesOn x with
                                    | false =>
                                      have HNX := hide ((unhide HP5).next (unhide HM5 _ _ (unhide HFK)) (unhide HX1) (unhide HGE) (fun _ y hy => by
                                        rcases nexts_toT hy with h | ⟨h, _⟩
                                        · exact h
                                        · rw [hon] at h; cases h))
                                      go_wp2_with fail
                                      go_roundg (f.code.length - (k + 1))
                                      case measure => omega
                                      case rel => exact ⟨k + 1, true, by omega, rfl, by go_num, rfl, unhide HB5, good2, f2, unhide HR5, unhide HNX⟩
                                    | true =>
                                      cases good2 with
                                      | false =>
                                        have HNX := hide ((unhide HP5).next (unhide HM5 _ _ (unhide HFK)) (unhide HX1) (unhide HGE) (fun e => by cases e))
                                        go_wp2_with fail
                                        go_roundg (f.code.length - (k + 1))
                                        case measure => omega
                                        case rel => exact ⟨k + 1, true, by omega, rfl, by go_num, rfl, unhide HB5, false, f2, unhide HR5, unhide HNX⟩
                                      | true =>
                                        have HRE2 : Hid (Reach f.code f.hands ((k : Int) + 1).toNat ((n : Int) - takes x + leaves x).toNat) := (unhide HRE).next (unhide HX1) (unhide HGE) (nexts_mem.2 (Or.inr ⟨hon, by omega, rfl⟩))
                                        go_wp2_with fail
                                        refine (rcome_int (unhide HR5) (unhide HB5).size y2 _ _ (by omega) (by omega) (by omega) (by omega)).mono ?_
                                        rintro e w6 hc
                                        obtain ⟨hb6, r, good6, f6, rfl, hr6, hp6, hm6⟩ := (unhide HP5).after (unhide HRE2) hc
                                        have HB6 := hide ((unhide HB5).trans hb6)
                                        have HR6 := hide hr6
                                        have HNX := hide (hp6.next (hm6 _ _ (unhide HM5 _ _ (unhide HFK))) (unhide HX1) (unhide HGE) (fun _ y hy => by
                                          rcases nexts_toT hy with h | ⟨_, rfl⟩
                                          · exact List.mem_cons_of_mem _ h
                                          · rw [show ((k : Int) + 1).toNat = k + 1 by omega]; exact List.mem_cons_self))
                                        clear hc hb6 hr6 hp6 hm6
                                        cases r with
                                        | false =>
                                          go_wp2_with fail
                                          go_roundg (f.code.length - (k + 1))
                                          case measure => omega
                                          case rel => exact ⟨k + 1, true, by omega, rfl, by go_num, rfl, unhide HB6, good6, f6, unhide HR6, by have := unhide HNX; rwa [Bool.or_false] at this⟩
                                        | true =>
                                          go_wp2_with fail
                                          go_roundg (f.code.length - (k + 1))
                                          case measure => omega
                                          case rel => exact ⟨k + 1, true, by omega, rfl, by go_num, rfl, unhide HB6, good6, f6, unhide HR6, by have := unhide HNX; rwa [Bool.or_true] at this⟩
                          · obtain rfl : k = f.code.length := by omega
                            have hff6 : decide ((f.code.length : Int) < (f.code.length : Int)) = false := by simp
                            clear hlt hk hr hp HY hgd
                            go_wp2_with fail
                            go_roundg U
                            case measure => exact unhide HLT
                            case rel => exact ⟨ag, rfl, unhide HB, good, fm, unhide HR, unhide HP⟩
end Go.Proofs.YtcbgcjkcfolcoaaDoor
