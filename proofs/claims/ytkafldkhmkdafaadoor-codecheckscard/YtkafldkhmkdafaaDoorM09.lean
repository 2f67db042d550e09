/-
  Whether an image may be run, by the program: the whole.
  The document's answer: small questions.
  The document's table of instructions (one).
  The document's table of instructions (two).
-/
import Derived.Test.YtkafldkhmkdafaaDoorM08
namespace Go.Proofs.YtkafldkhmkdafaaDoor
open Go.RowKit

/-- An error and its place, in memory. -/
def ErrAt (w : World) (v : Value) (e p : Int) : Prop :=
  (v = .nilIface ∧ e = 0 ∧ p = -1) ∨ (v = .iface 33 (.int .i64 e) ∧ p = -1) ∨
  (∃ b, v = .iface 59 (.pointer (some ⟨b, 0, none⟩)) ∧ w.cell? ⟨b, 0, none⟩ = some (.int .i64 e) ∧ w.cell? ⟨b, 1, none⟩ = some (.int .i64 p))
theorem ErrAt.keep {w w' : World} {v : Value} {e p : Int} (h : ErrAt w v e p) (hb : Below w.heap.size w w') : ErrAt w' v e p := by
  rcases h with h | h | ⟨b, h1, h2, h3⟩
  · exact Or.inl h
  · exact Or.inr (Or.inl h)
  · exact Or.inr (Or.inr ⟨b, h1, cellk hb h2 (cell_lt h2), cellk hb h3 (cell_lt h3)⟩)

def CheckPost (m : PM) (w : World) (e : Ending) (w' : World) : Prop := Below w.heap.size w w' ∧ ∃ v n p, e = .returned v ∧ ErrAt w' v n p ∧ Verdict m n p

theorem check_nil (w : World) : Calls Tryd.prog 7 #[.pointer none] w fun e w' => e = .returned (.iface 33 (.int .i64 7)) ∧ w = w' := by
  go_enter Tryd.func7, Tryd.ntmps7
  go_wp2_with fail
  go_ret
  exact ⟨rfl, rfl⟩

set_option maxRecDepth 100000 in
set_option maxHeartbeats 4000000 in
theorem check_limit {w : World} {b : Nat} {m : PM} {vf vc vk : Value} (h : ImgAt w b m vf vc vk) (hl : limitOk m = false) :
    Calls Tryd.prog 7 #[.pointer (some ⟨b, 0, none⟩)] w fun e w' => CheckPost m w e w' := by
  have hd : ¬ (1 ≤ m.funcs.length ∧ m.funcs.length ≤ 250 ∧ m.consts.length ≤ 1000 ∧ m.classes.length ≤ 250) := by
    intro hh
    have : limitOk m = true := by
      unfold limitOk inB
      simp
      omega
    rw [this] at hl
    cases hl
  have HL := hide hl
  have c0 := h.c0
  have c1 := h.c1
  have c2 := h.c2
  obtain ⟨_, ⟨gf, capf, rfl, _, _⟩, _⟩ := h.img.funcs
  obtain ⟨gc, capc, rfl, _, _⟩ := h.img.consts
  obtain ⟨_, ⟨gk, capk, rfl, _, _⟩, _⟩ := h.img.classes
  clear h hl
  have fin : Hid (CheckPost m w (.returned (.iface 33 (.int .i64 4))) w) := ⟨Below.refl _ _, _, 4, -1, rfl, Or.inr (Or.inl ⟨rfl, rfl⟩), Or.inl ⟨unhide HL, rfl, rfl⟩⟩
  generalize m.funcs.length = F at *
  generalize m.consts.length = K at *
  generalize m.classes.length = L at *
  by_cases h1 : F = 0
  · have b1 : ((F : Int) == 0) = true := by rw [beq_iff_eq]; omega
    clear hd h1
    go_enter Tryd.func7, Tryd.ntmps7
    go_wp2_with fail
    go_ret
    exact unhide fin
  · have b1 : ((F : Int) == 0) = false := by rw [beq_eq_false_iff_ne]; omega
    by_cases h2 : 250 < F
    · have b2 : decide ((250 : Int) < (F : Int)) = true := by simp; omega
      clear hd h1
      go_enter Tryd.func7, Tryd.ntmps7
      go_wp2_with fail
      go_ret
      exact unhide fin
    · have b2 : decide ((250 : Int) < (F : Int)) = false := by simp; omega
      by_cases h3 : 1000 < K
      · have b3 : decide ((1000 : Int) < (K : Int)) = true := by simp; omega
        clear hd h1
        go_enter Tryd.func7, Tryd.ntmps7
        go_wp2_with fail
        go_ret
        exact unhide fin
      · have b3 : decide ((1000 : Int) < (K : Int)) = false := by simp; omega
        have b4 : decide ((250 : Int) < (L : Int)) = true := by simp; omega
        clear hd h1
        go_enter Tryd.func7, Tryd.ntmps7
        go_wp2_with fail
        go_ret
        exact unhide fin

def InM (m : PM) : Prop := ∀ f ∈ m.funcs, InB f

set_option maxRecDepth 100000 in
set_option maxHeartbeats 8000000 in
theorem check_any {w : World} {b : Nat} {m : PM} {vf vc vk : Value} (h : ImgAt w b m vf vc vk) (hin : InM m) :
    Calls Tryd.prog 7 #[.pointer (some ⟨b, 0, none⟩)] w fun e w' => CheckPost m w e w' := by
  cases hl : limitOk m with
  | false => exact check_limit h hl
  | true =>
    have hd : (1 ≤ m.funcs.length ∧ m.funcs.length ≤ 250 ∧ m.consts.length ≤ 1000 ∧ m.classes.length ≤ 250) := by
      unfold limitOk inB at hl
      simp at hl
      omega
    obtain ⟨hd1, hd2, hd3, hd4⟩ := hd
    have b1 : ((m.funcs.length : Int) == 0) = false := by rw [beq_eq_false_iff_ne]; omega
    have b2 : decide ((250 : Int) < (m.funcs.length : Int)) = false := by simp; omega
    have b3 : decide ((1000 : Int) < (m.consts.length : Int)) = false := by simp; omega
    have b4 : decide ((250 : Int) < (m.classes.length : Int)) = false := by simp; omega
    have HL := hide hl
    have H := hide h
    have HIN := hide hin
    have c0 := h.c0
    have c1 := h.c1
    have c2 := h.c2
    obtain ⟨RF, ⟨gf, capf, rfl, _, rf⟩, hRF⟩ := h.img.funcs
    obtain ⟨gc, capc, rfl, _, _⟩ := h.img.consts
    obtain ⟨_, ⟨gk, capk, rfl, _, _⟩, _⟩ := h.img.classes
    have HRF := hide rf
    have HRR := hide hRF
    have HC0 := hide c0
    clear h hl hin rf hRF
    go_enter Tryd.func7, Tryd.ntmps7
    go_wp2_with fail
    go_loopg [45] m.classes.length (fun gg i wr => ∃ k : Nat, k ≤ m.classes.length ∧ gg = m.classes.length - k ∧ i = .int .i64 k ∧ Hid (∀ (j : Nat) (c : PK), j < k → m.classes[j]? = some c → classOk m j c = true) ∧ Hid (Below w.heap.size w wr))
    case atStart => exact ⟨0, Nat.zero_le _, rfl, rfl, fun j c hj => absurd hj (Nat.not_lt_zero j), Below.refl _ _⟩
    case round =>
      obtain ⟨k, hk, rfl, rfl, HA, HB⟩ := hrel
      by_cases hlt : k < m.classes.length
      · have hx : m.classes[k]? = some (m.classes[k]'hlt) := List.getElem?_eq_getElem _
        generalize (m.classes[k]'hlt) = x at *
        have hk2 : (k : Int) < (m.classes.length : Int) := by omega
        have HX := hide hx
        clear hx c0 c1 c2
        go_wp2_with fail
        refine (class_any ((unhide H).keep (unhide HB)) (unhide HX)).mono ?_
        rintro e w2 ⟨rfl, hb2⟩
        have HB2 := hide ((unhide HB).trans (hb2.mono (unhide HB).size))
        clear hb2
        cases hc : classOk m k x with
        | false =>
          have HC := hide hc
          go_wp2_with fail
          go_ret
          refine ⟨unhide HB2, _, 2, -1, rfl, Or.inr (Or.inl ⟨rfl, rfl⟩), Or.inr (Or.inl ⟨unhide HL, fun hh => ?_, rfl, rfl⟩)⟩
          have := hh k x (unhide HX)
          rw [unhide HC] at this
          cases this
        | true =>
          have HC := hide hc
          go_wp2_with fail
          go_roundg (m.classes.length - (k + 1))
          case measure => omega
          case rel =>
            refine ⟨k + 1, by omega, rfl, by go_num, fun j c hj hcj => ?_, unhide HB2⟩
            by_cases e : j = k
            · subst e
              rw [unhide HX] at hcj
              cases hcj
              exact unhide HC
            · exact unhide HA j c (by omega) hcj
      · obtain rfl : k = m.classes.length := by omega
        have hff : decide ((m.classes.length : Int) < (m.classes.length : Int)) = false := by simp
        have HOK : Hid (ClassesOk m) := fun i c hc => unhide HA i c (List.getElem?_eq_some_iff.1 hc).1 hc
        have d0 := cellk (unhide HB) c0 (cell_lt c0)
        clear c0 c1 c2 HA hlt hk
        go_wp2_with fail
        go_loopg [59] m.funcs.length (fun gg i wr => ∃ k : Nat, k ≤ m.funcs.length ∧ gg = m.funcs.length - k ∧ i = .int .i64 k ∧ Hid (∀ (j : Nat) (g : PF), j < k → m.funcs[j]? = some g → FnErr m g 0) ∧ Hid (Below w.heap.size w wr))
        case atStart => exact ⟨0, Nat.zero_le _, rfl, rfl, fun j c hj => absurd hj (Nat.not_lt_zero j), unhide HB⟩
        case round =>
          obtain ⟨k, hk, rfl, rfl, HA, HB⟩ := hrel
          by_cases hlt : k < m.funcs.length
          · have hx : m.funcs[k]? = some (m.funcs[k]'hlt) := List.getElem?_eq_getElem _
            generalize (m.funcs[k]'hlt) = x at *
            have hk2 : (k : Int) < (m.funcs.length : Int) := by omega
            obtain ⟨gb, go, rfl, hF⟩ := FnAt.of_rows (unhide HRF) hlt (unhide HRR k x hx)
            have HF := hide hF
            have HX := hide hx
            have e0 := cellk (unhide HB) (unhide HC0) (cell_lt (unhide HC0))
            clear hx d0 hF
            go_wp2_with fail
            refine (checkFunc_any ((unhide H).keep (unhide HB)) ((unhide HF).keep (unhide HB)) (unhide HIN x (List.mem_of_getElem? (unhide HX)))).mono ?_
            rintro e w2 ⟨hb2, n, rfl, hn⟩
            have HB2 := hide ((unhide HB).trans (hb2.mono (unhide HB).size))
            have HN := hide hn
            clear hb2 hn
            by_cases h0 : n = 0
            · have hb0 : (n != 0) = false := by rw [bne_eq_false_iff_eq]; exact h0
              have H0 := hide h0
              clear h0
              go_wp2_with fail
              go_roundg (m.funcs.length - (k + 1))
              case measure => omega
              case rel =>
                refine ⟨k + 1, by omega, rfl, by go_num, fun j c hj hcj => ?_, unhide HB2⟩
                by_cases e : j = k
                · subst e
                  rw [unhide HX] at hcj
                  cases hcj
                  have := unhide HN
                  rwa [unhide H0] at this
                · exact unhide HA j c (by omega) hcj
            · have hb0 : (n != 0) = true := by rw [bne_iff_ne]; exact h0
              have H0 := hide h0
              clear h0
              go_wp2_with fail
              go_ret
              refine ⟨(unhide HB2).alloc (unhide HB2).size _, _, n, k, rfl, Or.inr (Or.inr ⟨_, rfl, hcell (hnew _ _) 0, hcell (hnew _ _) 1⟩), Or.inr (Or.inr ⟨unhide HL, unhide HOK, Or.inl ⟨k, x, unhide HX, unhide HN, unhide H0, rfl, unhide HA⟩⟩)⟩
          · obtain rfl : k = m.funcs.length := by omega
            have hff2 : decide ((m.funcs.length : Int) < (m.funcs.length : Int)) = false := by simp
            clear d0 hlt hk
            go_wp2_with fail
            go_ret
            exact ⟨unhide HB, _, 0, -1, rfl, Or.inl ⟨rfl, rfl, rfl⟩, Or.inr (Or.inr ⟨unhide HL, unhide HOK, Or.inr ⟨rfl, rfl, fun j g hj => unhide HA j g (List.getElem?_eq_some_iff.1 hj).1 hj⟩⟩)⟩
end Go.Proofs.YtkafldkhmkdafaaDoor

namespace Go.Proofs.YtkafldkhmkdafaaDoor
open Go.RowKit

set_option maxHeartbeats 1000000 in
theorem within_is {n l t : Int} {c : Bool} (h : inB n l t = c) (w : World) : Calls Tryd.prog 16 #[.int .i64 n, .int .i64 l, .int .i64 t] w fun e w' => e = .returned (.bool c) ∧ w = w' := by
  have HD : Hid (inB n l t = decide (l ≤ n ∧ n ≤ t)) := rfl
  have HC := hide h
  clear h
  by_cases h1 : l ≤ n
  · have d1 : decide (l ≤ n) = true := by simpa using h1
    go_enter Tryd.func16, Tryd.ntmps16
    go_wp2_with fail
    go_ret
    exact ⟨rb (by rw [← unhide HC, unhide HD]; simp [h1]), rfl⟩
  · have d1 : decide (l ≤ n) = false := by simpa using h1
    go_enter Tryd.func16, Tryd.ntmps16
    go_wp2_with fail
    go_ret
    exact ⟨rb (by rw [← unhide HC, unhide HD]; exact (decide_eq_false (by omega)).symm), rfl⟩

set_option maxHeartbeats 1000000 in
theorem bare_any (n : Int) (w : World) : Calls Tryd.prog 17 #[.int .i64 n] w fun e w' => e = .returned (.agg #[.int .i64 n, .int .i64 (-1)]) ∧ Below w.heap.size w w' := by
  go_enter Tryd.func17, Tryd.ntmps17
  go_wp2_with fail
  exact bodyPost_ret (v := .agg #[.int .i64 n, .int .i64 (-1)]) (by simp [results, Tryd.results17, go_sem]) rfl ⟨rfl, (Below.refl _ _).alloc (Nat.le_refl _) _⟩

set_option maxHeartbeats 1000000 in
theorem rtext_is {w : World} {b q : Nat} {m : PM} {vf vc vk : Value} (h : ImgAt w b m vf vc vk) (hq : w.cell? ⟨q, 0, none⟩ = some (.pointer (some ⟨b, 0, none⟩))) (hK : m.consts.length ≤ 1100) {n : Int} {c : Bool} (hc : isText m n = c) :
    Calls Tryd.prog 46 #[.int .i64 n, .pointer (some ⟨q, 0, none⟩)] w fun e w' => e = .returned (.bool c) ∧ w = w' := by
  have c1 := h.c1
  obtain ⟨g, cap, rfl, hN, hr⟩ := h.img.consts
  have HD : Hid (c = (belowB n m.consts.length && (constAt m n).text)) := hc.symm
  clear h hc
  cases hb : belowB n m.consts.length with
  | false =>
    have hb' := (inB_below n m.consts.length).trans hb
    go_enter Tryd.func46, Tryd.ntmps46
    go_wp2_with (go_at_call 16; refine (within_is hb' _).mono ?_; rintro e w' ⟨rfl, rfl⟩)
    go_ret
    exact ⟨rb (by rw [unhide HD, hb]; rfl), rfl⟩
  | true =>
    have hb' := (inB_below n m.consts.length).trans hb
    obtain ⟨h1, h2⟩ := belowB_true hb
    obtain ⟨k, rfl⟩ := Int.eq_ofNat_of_zero_le h1
    obtain ⟨gb, go, rfl, hcc⟩ := hr k (by omega)
    have hx : m.consts[k]? = some (m.consts[k]'(by omega)) := List.getElem?_eq_getElem _
    have hc0 : w.cell? ⟨gb, go + k * 3, none⟩ = some (.bool (m.consts[k]'(by omega)).text) := by
      have := hcc 0 (by omega)
      rw [constRow, hx] at this
      exact this
    have HC : Hid ((constAt m k).text = (m.consts[k]'(by omega)).text) := by
      show (constAt m k).text = _
      simp [constAt, List.getD, hx]
    clear hcc hr hx
    generalize (m.consts[k]'(by omega)).text = t at *
    go_enter Tryd.func46, Tryd.ntmps46
    go_wp2_with (go_at_call 16; refine (within_is hb' _).mono ?_; rintro e w' ⟨rfl, rfl⟩)
    go_ret
    exact ⟨rb (by rw [unhide HD, hb, unhide HC]; rfl), rfl⟩

theorem call_in (m : PM) (n : Int) : inB n 1 (m.funcs.length - 1) = callB m n := by
  unfold callB inB belowB
  by_cases h : n = 0
  · subst h; simp
  · have : (n != 0) = true := by rw [bne_iff_ne]; exact h
    rw [this, Bool.true_and]
    apply decide_eq_decide.2
    omega
end Go.Proofs.YtkafldkhmkdafaaDoor

namespace Go.Proofs.YtkafldkhmkdafaaDoor
open Go.RowKit

/-- What 'effect' answers. -/
def EffPost (m : PM) (f : PF) (i : PI) (w : World) (e : Ending) (w' : World) : Prop :=
  ∃ t l to' th on, e = .returned (.tuple #[.bool (nameOk m f.slots f.code.length i), .int .i64 t, .int .i64 l, .int .i64 to', .int .i64 th, .bool on]) ∧ (nameOk m f.slots f.code.length i = true → t = takes i ∧ l = leaves i ∧ to' = goesTo i ∧ th = there i ∧ on = goesOn i) ∧ Below w.heap.size w w'
theorem EffPost.mk {m : PM} {f : PF} {i : PI} {w w' : World} {c : Bool} {t l to' th : Int} {on : Bool} (hc : c = nameOk m f.slots f.code.length i) (ht : c = true → t = takes i) (hr : l = leaves i ∧ to' = goesTo i ∧ th = there i ∧ on = goesOn i) (h : Below w.heap.size w w') :
    EffPost m f i w (.returned (.tuple #[.bool c, .int .i64 t, .int .i64 l, .int .i64 to', .int .i64 th, .bool on])) w' :=
  ⟨t, l, to', th, on, by rw [hc], fun hk => ⟨ht (hc.trans hk), hr.1, hr.2.1, hr.2.2.1, hr.2.2.2⟩, h⟩
theorem EffPost.no {m : PM} {f : PF} {i : PI} {w w' : World} {t l to' th : Int} {on : Bool} (hc : nameOk m f.slots f.code.length i = false) (h : Below w.heap.size w w') :
    EffPost m f i w (.returned (.tuple #[.bool false, .int .i64 t, .int .i64 l, .int .i64 to', .int .i64 th, .bool on])) w' :=
  ⟨t, l, to', th, on, by rw [hc], fun hk => (by rw [hc] at hk; cases hk), h⟩
/-- What is asked of the memory when it is asked. -/
structure EffAsk (w : World) (b : Nat) (m : PM) (vf vc vk : Value) (f : PF) (g3 g4 g5 : Option Addr) (p3 p4 p5 : Nat) : Prop where
  img : ImgAt w b m vf vc vk
  h1 : m.funcs.length ≤ 250
  h2 : m.consts.length ≤ 1000
  h3 : m.classes.length ≤ 250
  h4 : f.code.length ≤ 5000
  h5 : 0 ≤ f.slots
  h6 : f.slots ≤ 200
theorem below3 {w : World} (a b c : Obj) (n : Nat) : Below w.heap.size w ((((w.alloc a).alloc b).alloc c).drewN n) :=
  Bl.drewN ((((Below.refl _ _).alloc (Nat.le_refl _) a).alloc (by simp) b).alloc (by simp; omega) c) n
theorem cell_al3 {w : World} {a : Addr} {v : Value} (h : w.cell? a = some v) : ∀ o p q, (((w.alloc o).alloc p).alloc q).cell? a = some v := fun o p q => cell_al (cell_al (cell_al h o) p) q
theorem within_bl {n m : Int} {c : Bool} (h : belowB n m = c) (w : World) : Calls Tryd.prog 16 #[.int .i64 n, .int .i64 0, .int .i64 (m - 1)] w fun e w' => e = .returned (.bool c) ∧ w = w' := within_is ((inB_below n m).trans h) w
theorem within_cl {m : PM} {n : Int} {c : Bool} (h : callB m n = c) (w : World) : Calls Tryd.prog 16 #[.int .i64 n, .int .i64 1, .int .i64 (m.funcs.length - 1)] w fun e w' => e = .returned (.bool c) ∧ w = w' := within_is ((call_in m n).trans h) w
theorem eff_box (w : World) (a b : Obj) (cs : Array Value) {t : TypeId} (j : Nat) : (((w.alloc a).alloc b).alloc (.cells cs t)).cell? ⟨w.heap.size + 1 + 1, j, none⟩ = cs[j]? := by
  have e : ((w.alloc a).alloc b).heap.size = w.heap.size + 1 + 1 := by simp
  rw [← e]; exact hcell (hnew _ _) j
theorem mkf (fn : Fn) (first cap : Array Value) (w : World) : (Go.Instr.makeFunc fn first cap).run Tryd.prog w = .ok (.func fn first cap) w := rfl

set_option maxRecDepth 100000 in
set_option maxHeartbeats 4000000 in
theorem ef_1 {w : World} {b : Nat} {m : PM} {vf vc vk : Value} {f : PF} {g3 g4 g5 : Option Addr} {p3 p4 p5 : Nat} (h : EffAsk w b m vf vc vk f g3 g4 g5 p3 p4 p5) (x y : Int) :
    Calls Tryd.prog 30 #[.pointer (some ⟨b, 0, none⟩), .agg #[.string f.name, .int .i64 f.params, .int .i64 f.slots, .slice g3 f.code.length p3, .slice g4 f.hands.length p4, .slice g5 f.vars.length p5], .agg #[.int .i64 1, .int .i64 x, .int .i64 y]] w fun e w' => EffPost m f ⟨1, x, y⟩ w e w' := by
  obtain ⟨hI, h1, h2, h3, h4, h5, h6⟩ := h
  obtain ⟨_, ⟨gf, cf, rfl, _, _⟩, _⟩ := hI.img.funcs
  obtain ⟨gc, cc, rfl, _, _⟩ := hI.img.consts
  obtain ⟨_, ⟨gk, ck, rfl, _, _⟩, _⟩ := hI.img.classes
  have c0 := cell_al3 hI.c0
  have c1 := cell_al3 hI.c1
  have c2 := cell_al3 hI.c2
  have H := hide hI
  have hmf := mkf
  clear hI
  obtain ⟨bf, qf⟩ : ∃ c, inB y 0 50 = c := ⟨_, rfl⟩
  obtain ⟨bs, qs⟩ : ∃ c, belowB x f.slots = c := ⟨_, rfl⟩
  obtain ⟨ba, qa⟩ : ∃ c, belowB x f.code.length = c := ⟨_, rfl⟩
  obtain ⟨bn, qn⟩ : ∃ c, callB m x = c := ⟨_, rfl⟩
  go_enter Tryd.func30, Tryd.ntmps30
  go_wp2_with fail
  refine (within_is qf _).mono ?_
  rintro e wa ⟨rfl, rfl⟩
  go_wp2_with fail
  refine (within_bl qs _).mono ?_
  rintro e wa ⟨rfl, rfl⟩
  go_wp2_with fail
  refine (within_bl qa _).mono ?_
  rintro e wa ⟨rfl, rfl⟩
  go_wp2_with fail
  go_quiet ((go_at_call 16; exact Calls.quiet_of_same (same_back (within_cl qn _))))
  go_wp2_with fail
  exact bodyPost_ret (v := .tuple #[.bool true, .int .i64 0, .int .i64 0, .int .i64 (-1), .int .i64 0, .bool true]) (by simp [results, Tryd.results30, go_sem]) rfl (EffPost.mk rfl (fun _ => rfl) ⟨rfl, rfl, rfl, rfl⟩ (below3 _ _ _ _))
end Go.Proofs.YtkafldkhmkdafaaDoor

namespace Go.Proofs.YtkafldkhmkdafaaDoor
open Go.RowKit

set_option maxRecDepth 100000 in
set_option maxHeartbeats 4000000 in
theorem ef_3 {w : World} {b : Nat} {m : PM} {vf vc vk : Value} {f : PF} {g3 g4 g5 : Option Addr} {p3 p4 p5 : Nat} (h : EffAsk w b m vf vc vk f g3 g4 g5 p3 p4 p5) (x y : Int) :
    Calls Tryd.prog 30 #[.pointer (some ⟨b, 0, none⟩), .agg #[.string f.name, .int .i64 f.params, .int .i64 f.slots, .slice g3 f.code.length p3, .slice g4 f.hands.length p4, .slice g5 f.vars.length p5], .agg #[.int .i64 3, .int .i64 x, .int .i64 y]] w fun e w' => EffPost m f ⟨3, x, y⟩ w e w' := by
  obtain ⟨hI, h1, h2, h3, h4, h5, h6⟩ := h
  obtain ⟨_, ⟨gf, cf, rfl, _, _⟩, _⟩ := hI.img.funcs
  obtain ⟨gc, cc, rfl, _, _⟩ := hI.img.consts
  obtain ⟨_, ⟨gk, ck, rfl, _, _⟩, _⟩ := hI.img.classes
  have c0 := cell_al3 hI.c0
  have c1 := cell_al3 hI.c1
  have c2 := cell_al3 hI.c2
  have H := hide hI
  have hmf := mkf
  clear hI
  obtain ⟨bf, qf⟩ : ∃ c, inB y 0 50 = c := ⟨_, rfl⟩
  obtain ⟨bs, qs⟩ : ∃ c, belowB x f.slots = c := ⟨_, rfl⟩
  obtain ⟨ba, qa⟩ : ∃ c, belowB x f.code.length = c := ⟨_, rfl⟩
  obtain ⟨bn, qn⟩ : ∃ c, callB m x = c := ⟨_, rfl⟩
  go_enter Tryd.func30, Tryd.ntmps30
  go_wp2_with fail
  refine (within_is qf _).mono ?_
  rintro e wa ⟨rfl, rfl⟩
  go_wp2_with fail
  refine (within_bl qs _).mono ?_
  rintro e wa ⟨rfl, rfl⟩
  go_wp2_with fail
  refine (within_bl qa _).mono ?_
  rintro e wa ⟨rfl, rfl⟩
  go_wp2_with fail
  go_quiet ((go_at_call 16; exact Calls.quiet_of_same (same_back (within_cl qn _))))
  go_wp2_with fail
  exact bodyPost_ret (v := .tuple #[.bool true, .int .i64 0, .int .i64 1, .int .i64 (-1), .int .i64 0, .bool true]) (by simp [results, Tryd.results30, go_sem]) rfl (EffPost.mk rfl (fun _ => rfl) ⟨rfl, rfl, rfl, rfl⟩ (below3 _ _ _ _))

set_option maxRecDepth 100000 in
set_option maxHeartbeats 4000000 in
theorem ef_5 {w : World} {b : Nat} {m : PM} {vf vc vk : Value} {f : PF} {g3 g4 g5 : Option Addr} {p3 p4 p5 : Nat} (h : EffAsk w b m vf vc vk f g3 g4 g5 p3 p4 p5) (x y : Int) :
    Calls Tryd.prog 30 #[.pointer (some ⟨b, 0, none⟩), .agg #[.string f.name, .int .i64 f.params, .int .i64 f.slots, .slice g3 f.code.length p3, .slice g4 f.hands.length p4, .slice g5 f.vars.length p5], .agg #[.int .i64 5, .int .i64 x, .int .i64 y]] w fun e w' => EffPost m f ⟨5, x, y⟩ w e w' := by
  obtain ⟨hI, h1, h2, h3, h4, h5, h6⟩ := h
  obtain ⟨_, ⟨gf, cf, rfl, _, _⟩, _⟩ := hI.img.funcs
  obtain ⟨gc, cc, rfl, _, _⟩ := hI.img.consts
  obtain ⟨_, ⟨gk, ck, rfl, _, _⟩, _⟩ := hI.img.classes
  have c0 := cell_al3 hI.c0
  have c1 := cell_al3 hI.c1
  have c2 := cell_al3 hI.c2
  have H := hide hI
  have hmf := mkf
  clear hI
  obtain ⟨bf, qf⟩ : ∃ c, inB y 0 50 = c := ⟨_, rfl⟩
  obtain ⟨bs, qs⟩ : ∃ c, belowB x f.slots = c := ⟨_, rfl⟩
  obtain ⟨ba, qa⟩ : ∃ c, belowB x f.code.length = c := ⟨_, rfl⟩
  obtain ⟨bn, qn⟩ : ∃ c, callB m x = c := ⟨_, rfl⟩
  go_enter Tryd.func30, Tryd.ntmps30
  go_wp2_with fail
  refine (within_is qf _).mono ?_
  rintro e wa ⟨rfl, rfl⟩
  go_wp2_with fail
  refine (within_bl qs _).mono ?_
  rintro e wa ⟨rfl, rfl⟩
  go_wp2_with fail
  refine (within_bl qa _).mono ?_
  rintro e wa ⟨rfl, rfl⟩
  go_wp2_with fail
  go_quiet ((go_at_call 16; exact Calls.quiet_of_same (same_back (within_cl qn _))))
  go_wp2_with fail
  exact bodyPost_ret (v := .tuple #[.bool true, .int .i64 0, .int .i64 1, .int .i64 (-1), .int .i64 0, .bool true]) (by simp [results, Tryd.results30, go_sem]) rfl (EffPost.mk rfl (fun _ => rfl) ⟨rfl, rfl, rfl, rfl⟩ (below3 _ _ _ _))

set_option maxRecDepth 100000 in
set_option maxHeartbeats 4000000 in
theorem ef_19 {w : World} {b : Nat} {m : PM} {vf vc vk : Value} {f : PF} {g3 g4 g5 : Option Addr} {p3 p4 p5 : Nat} (h : EffAsk w b m vf vc vk f g3 g4 g5 p3 p4 p5) (x y : Int) :
    Calls Tryd.prog 30 #[.pointer (some ⟨b, 0, none⟩), .agg #[.string f.name, .int .i64 f.params, .int .i64 f.slots, .slice g3 f.code.length p3, .slice g4 f.hands.length p4, .slice g5 f.vars.length p5], .agg #[.int .i64 19, .int .i64 x, .int .i64 y]] w fun e w' => EffPost m f ⟨19, x, y⟩ w e w' := by
  obtain ⟨hI, h1, h2, h3, h4, h5, h6⟩ := h
  obtain ⟨_, ⟨gf, cf, rfl, _, _⟩, _⟩ := hI.img.funcs
  obtain ⟨gc, cc, rfl, _, _⟩ := hI.img.consts
  obtain ⟨_, ⟨gk, ck, rfl, _, _⟩, _⟩ := hI.img.classes
  have c0 := cell_al3 hI.c0
  have c1 := cell_al3 hI.c1
  have c2 := cell_al3 hI.c2
  have H := hide hI
  have hmf := mkf
  clear hI
  obtain ⟨bf, qf⟩ : ∃ c, inB y 0 50 = c := ⟨_, rfl⟩
  obtain ⟨bs, qs⟩ : ∃ c, belowB x f.slots = c := ⟨_, rfl⟩
  obtain ⟨ba, qa⟩ : ∃ c, belowB x f.code.length = c := ⟨_, rfl⟩
  obtain ⟨bn, qn⟩ : ∃ c, callB m x = c := ⟨_, rfl⟩
  go_enter Tryd.func30, Tryd.ntmps30
  go_wp2_with fail
  refine (within_is qf _).mono ?_
  rintro e wa ⟨rfl, rfl⟩
  go_wp2_with fail
  refine (within_bl qs _).mono ?_
  rintro e wa ⟨rfl, rfl⟩
  go_wp2_with fail
  refine (within_bl qa _).mono ?_
  rintro e wa ⟨rfl, rfl⟩
  go_wp2_with fail
  go_quiet ((go_at_call 16; exact Calls.quiet_of_same (same_back (within_cl qn _))))
  go_wp2_with fail
  exact bodyPost_ret (v := .tuple #[.bool true, .int .i64 1, .int .i64 1, .int .i64 (-1), .int .i64 0, .bool true]) (by simp [results, Tryd.results30, go_sem]) rfl (EffPost.mk rfl (fun _ => rfl) ⟨rfl, rfl, rfl, rfl⟩ (below3 _ _ _ _))

set_option maxRecDepth 100000 in
set_option maxHeartbeats 4000000 in
theorem ef_21 {w : World} {b : Nat} {m : PM} {vf vc vk : Value} {f : PF} {g3 g4 g5 : Option Addr} {p3 p4 p5 : Nat} (h : EffAsk w b m vf vc vk f g3 g4 g5 p3 p4 p5) (x y : Int) :
    Calls Tryd.prog 30 #[.pointer (some ⟨b, 0, none⟩), .agg #[.string f.name, .int .i64 f.params, .int .i64 f.slots, .slice g3 f.code.length p3, .slice g4 f.hands.length p4, .slice g5 f.vars.length p5], .agg #[.int .i64 21, .int .i64 x, .int .i64 y]] w fun e w' => EffPost m f ⟨21, x, y⟩ w e w' := by
  obtain ⟨hI, h1, h2, h3, h4, h5, h6⟩ := h
  obtain ⟨_, ⟨gf, cf, rfl, _, _⟩, _⟩ := hI.img.funcs
  obtain ⟨gc, cc, rfl, _, _⟩ := hI.img.consts
  obtain ⟨_, ⟨gk, ck, rfl, _, _⟩, _⟩ := hI.img.classes
  have c0 := cell_al3 hI.c0
  have c1 := cell_al3 hI.c1
  have c2 := cell_al3 hI.c2
  have H := hide hI
  have hmf := mkf
  clear hI
  obtain ⟨bf, qf⟩ : ∃ c, inB y 0 50 = c := ⟨_, rfl⟩
  obtain ⟨bs, qs⟩ : ∃ c, belowB x f.slots = c := ⟨_, rfl⟩
  obtain ⟨ba, qa⟩ : ∃ c, belowB x f.code.length = c := ⟨_, rfl⟩
  obtain ⟨bn, qn⟩ : ∃ c, callB m x = c := ⟨_, rfl⟩
  go_enter Tryd.func30, Tryd.ntmps30
  go_wp2_with fail
  refine (within_is qf _).mono ?_
  rintro e wa ⟨rfl, rfl⟩
  go_wp2_with fail
  refine (within_bl qs _).mono ?_
  rintro e wa ⟨rfl, rfl⟩
  go_wp2_with fail
  refine (within_bl qa _).mono ?_
  rintro e wa ⟨rfl, rfl⟩
  go_wp2_with fail
  go_quiet ((go_at_call 16; exact Calls.quiet_of_same (same_back (within_cl qn _))))
  go_wp2_with fail
  exact bodyPost_ret (v := .tuple #[.bool true, .int .i64 1, .int .i64 1, .int .i64 (-1), .int .i64 0, .bool true]) (by simp [results, Tryd.results30, go_sem]) rfl (EffPost.mk rfl (fun _ => rfl) ⟨rfl, rfl, rfl, rfl⟩ (below3 _ _ _ _))

set_option maxRecDepth 100000 in
set_option maxHeartbeats 4000000 in
theorem ef_23 {w : World} {b : Nat} {m : PM} {vf vc vk : Value} {f : PF} {g3 g4 g5 : Option Addr} {p3 p4 p5 : Nat} (h : EffAsk w b m vf vc vk f g3 g4 g5 p3 p4 p5) (x y : Int) :
    Calls Tryd.prog 30 #[.pointer (some ⟨b, 0, none⟩), .agg #[.string f.name, .int .i64 f.params, .int .i64 f.slots, .slice g3 f.code.length p3, .slice g4 f.hands.length p4, .slice g5 f.vars.length p5], .agg #[.int .i64 23, .int .i64 x, .int .i64 y]] w fun e w' => EffPost m f ⟨23, x, y⟩ w e w' := by
  obtain ⟨hI, h1, h2, h3, h4, h5, h6⟩ := h
  obtain ⟨_, ⟨gf, cf, rfl, _, _⟩, _⟩ := hI.img.funcs
  obtain ⟨gc, cc, rfl, _, _⟩ := hI.img.consts
  obtain ⟨_, ⟨gk, ck, rfl, _, _⟩, _⟩ := hI.img.classes
  have c0 := cell_al3 hI.c0
  have c1 := cell_al3 hI.c1
  have c2 := cell_al3 hI.c2
  have H := hide hI
  have hmf := mkf
  clear hI
  obtain ⟨bf, qf⟩ : ∃ c, inB y 0 50 = c := ⟨_, rfl⟩
  obtain ⟨bs, qs⟩ : ∃ c, belowB x f.slots = c := ⟨_, rfl⟩
  obtain ⟨ba, qa⟩ : ∃ c, belowB x f.code.length = c := ⟨_, rfl⟩
  obtain ⟨bn, qn⟩ : ∃ c, callB m x = c := ⟨_, rfl⟩
  go_enter Tryd.func30, Tryd.ntmps30
  go_wp2_with fail
  refine (within_is qf _).mono ?_
  rintro e wa ⟨rfl, rfl⟩
  go_wp2_with fail
  refine (within_bl qs _).mono ?_
  rintro e wa ⟨rfl, rfl⟩
  go_wp2_with fail
  refine (within_bl qa _).mono ?_
  rintro e wa ⟨rfl, rfl⟩
  go_wp2_with fail
  go_quiet ((go_at_call 16; exact Calls.quiet_of_same (same_back (within_cl qn _))))
  go_wp2_with fail
  exact bodyPost_ret (v := .tuple #[.bool true, .int .i64 2, .int .i64 1, .int .i64 (-1), .int .i64 0, .bool true]) (by simp [results, Tryd.results30, go_sem]) rfl (EffPost.mk rfl (fun _ => rfl) ⟨rfl, rfl, rfl, rfl⟩ (below3 _ _ _ _))

set_option maxRecDepth 100000 in
set_option maxHeartbeats 4000000 in
theorem ef_25 {w : World} {b : Nat} {m : PM} {vf vc vk : Value} {f : PF} {g3 g4 g5 : Option Addr} {p3 p4 p5 : Nat} (h : EffAsk w b m vf vc vk f g3 g4 g5 p3 p4 p5) (x y : Int) :
    Calls Tryd.prog 30 #[.pointer (some ⟨b, 0, none⟩), .agg #[.string f.name, .int .i64 f.params, .int .i64 f.slots, .slice g3 f.code.length p3, .slice g4 f.hands.length p4, .slice g5 f.vars.length p5], .agg #[.int .i64 25, .int .i64 x, .int .i64 y]] w fun e w' => EffPost m f ⟨25, x, y⟩ w e w' := by
  obtain ⟨hI, h1, h2, h3, h4, h5, h6⟩ := h
  obtain ⟨_, ⟨gf, cf, rfl, _, _⟩, _⟩ := hI.img.funcs
  obtain ⟨gc, cc, rfl, _, _⟩ := hI.img.consts
  obtain ⟨_, ⟨gk, ck, rfl, _, _⟩, _⟩ := hI.img.classes
  have c0 := cell_al3 hI.c0
  have c1 := cell_al3 hI.c1
  have c2 := cell_al3 hI.c2
  have H := hide hI
  have hmf := mkf
  clear hI
  obtain ⟨bf, qf⟩ : ∃ c, inB y 0 50 = c := ⟨_, rfl⟩
  obtain ⟨bs, qs⟩ : ∃ c, belowB x f.slots = c := ⟨_, rfl⟩
  obtain ⟨ba, qa⟩ : ∃ c, belowB x f.code.length = c := ⟨_, rfl⟩
  obtain ⟨bn, qn⟩ : ∃ c, callB m x = c := ⟨_, rfl⟩
  go_enter Tryd.func30, Tryd.ntmps30
  go_wp2_with fail
  refine (within_is qf _).mono ?_
  rintro e wa ⟨rfl, rfl⟩
  go_wp2_with fail
  refine (within_bl qs _).mono ?_
  rintro e wa ⟨rfl, rfl⟩
  go_wp2_with fail
  refine (within_bl qa _).mono ?_
  rintro e wa ⟨rfl, rfl⟩
  go_wp2_with fail
  go_quiet ((go_at_call 16; exact Calls.quiet_of_same (same_back (within_cl qn _))))
  go_wp2_with fail
  exact bodyPost_ret (v := .tuple #[.bool true, .int .i64 2, .int .i64 1, .int .i64 (-1), .int .i64 0, .bool true]) (by simp [results, Tryd.results30, go_sem]) rfl (EffPost.mk rfl (fun _ => rfl) ⟨rfl, rfl, rfl, rfl⟩ (below3 _ _ _ _))

set_option maxRecDepth 100000 in
set_option maxHeartbeats 4000000 in
theorem ef_27 {w : World} {b : Nat} {m : PM} {vf vc vk : Value} {f : PF} {g3 g4 g5 : Option Addr} {p3 p4 p5 : Nat} (h : EffAsk w b m vf vc vk f g3 g4 g5 p3 p4 p5) (x y : Int) :
    Calls Tryd.prog 30 #[.pointer (some ⟨b, 0, none⟩), .agg #[.string f.name, .int .i64 f.params, .int .i64 f.slots, .slice g3 f.code.length p3, .slice g4 f.hands.length p4, .slice g5 f.vars.length p5], .agg #[.int .i64 27, .int .i64 x, .int .i64 y]] w fun e w' => EffPost m f ⟨27, x, y⟩ w e w' := by
  obtain ⟨hI, h1, h2, h3, h4, h5, h6⟩ := h
  obtain ⟨_, ⟨gf, cf, rfl, _, _⟩, _⟩ := hI.img.funcs
  obtain ⟨gc, cc, rfl, _, _⟩ := hI.img.consts
  obtain ⟨_, ⟨gk, ck, rfl, _, _⟩, _⟩ := hI.img.classes
  have c0 := cell_al3 hI.c0
  have c1 := cell_al3 hI.c1
  have c2 := cell_al3 hI.c2
  have H := hide hI
  have hmf := mkf
  clear hI
  obtain ⟨bf, qf⟩ : ∃ c, inB y 0 50 = c := ⟨_, rfl⟩
  obtain ⟨bs, qs⟩ : ∃ c, belowB x f.slots = c := ⟨_, rfl⟩
  obtain ⟨ba, qa⟩ : ∃ c, belowB x f.code.length = c := ⟨_, rfl⟩
  obtain ⟨bn, qn⟩ : ∃ c, callB m x = c := ⟨_, rfl⟩
  go_enter Tryd.func30, Tryd.ntmps30
  go_wp2_with fail
  refine (within_is qf _).mono ?_
  rintro e wa ⟨rfl, rfl⟩
  go_wp2_with fail
  refine (within_bl qs _).mono ?_
  rintro e wa ⟨rfl, rfl⟩
  go_wp2_with fail
  refine (within_bl qa _).mono ?_
  rintro e wa ⟨rfl, rfl⟩
  go_wp2_with fail
  go_quiet ((go_at_call 16; exact Calls.quiet_of_same (same_back (within_cl qn _))))
  go_wp2_with fail
  exact bodyPost_ret (v := .tuple #[.bool true, .int .i64 2, .int .i64 1, .int .i64 (-1), .int .i64 0, .bool true]) (by simp [results, Tryd.results30, go_sem]) rfl (EffPost.mk rfl (fun _ => rfl) ⟨rfl, rfl, rfl, rfl⟩ (below3 _ _ _ _))

set_option maxRecDepth 100000 in
set_option maxHeartbeats 4000000 in
theorem ef_30 {w : World} {b : Nat} {m : PM} {vf vc vk : Value} {f : PF} {g3 g4 g5 : Option Addr} {p3 p4 p5 : Nat} (h : EffAsk w b m vf vc vk f g3 g4 g5 p3 p4 p5) (x y : Int) :
    Calls Tryd.prog 30 #[.pointer (some ⟨b, 0, none⟩), .agg #[.string f.name, .int .i64 f.params, .int .i64 f.slots, .slice g3 f.code.length p3, .slice g4 f.hands.length p4, .slice g5 f.vars.length p5], .agg #[.int .i64 30, .int .i64 x, .int .i64 y]] w fun e w' => EffPost m f ⟨30, x, y⟩ w e w' := by
  obtain ⟨hI, h1, h2, h3, h4, h5, h6⟩ := h
  obtain ⟨_, ⟨gf, cf, rfl, _, _⟩, _⟩ := hI.img.funcs
  obtain ⟨gc, cc, rfl, _, _⟩ := hI.img.consts
  obtain ⟨_, ⟨gk, ck, rfl, _, _⟩, _⟩ := hI.img.classes
  have c0 := cell_al3 hI.c0
  have c1 := cell_al3 hI.c1
  have c2 := cell_al3 hI.c2
  have H := hide hI
  have hmf := mkf
  clear hI
  obtain ⟨bf, qf⟩ : ∃ c, inB y 0 50 = c := ⟨_, rfl⟩
  obtain ⟨bs, qs⟩ : ∃ c, belowB x f.slots = c := ⟨_, rfl⟩
  obtain ⟨ba, qa⟩ : ∃ c, belowB x f.code.length = c := ⟨_, rfl⟩
  obtain ⟨bn, qn⟩ : ∃ c, callB m x = c := ⟨_, rfl⟩
  go_enter Tryd.func30, Tryd.ntmps30
  go_wp2_with fail
  refine (within_is qf _).mono ?_
  rintro e wa ⟨rfl, rfl⟩
  go_wp2_with fail
  refine (within_bl qs _).mono ?_
  rintro e wa ⟨rfl, rfl⟩
  go_wp2_with fail
  refine (within_bl qa _).mono ?_
  rintro e wa ⟨rfl, rfl⟩
  go_wp2_with fail
  go_quiet ((go_at_call 16; exact Calls.quiet_of_same (same_back (within_cl qn _))))
  go_wp2_with fail
  exact bodyPost_ret (v := .tuple #[.bool true, .int .i64 2, .int .i64 1, .int .i64 (-1), .int .i64 0, .bool true]) (by simp [results, Tryd.results30, go_sem]) rfl (EffPost.mk rfl (fun _ => rfl) ⟨rfl, rfl, rfl, rfl⟩ (below3 _ _ _ _))

set_option maxRecDepth 100000 in
set_option maxHeartbeats 4000000 in
theorem ef_40 {w : World} {b : Nat} {m : PM} {vf vc vk : Value} {f : PF} {g3 g4 g5 : Option Addr} {p3 p4 p5 : Nat} (h : EffAsk w b m vf vc vk f g3 g4 g5 p3 p4 p5) (x y : Int) :
    Calls Tryd.prog 30 #[.pointer (some ⟨b, 0, none⟩), .agg #[.string f.name, .int .i64 f.params, .int .i64 f.slots, .slice g3 f.code.length p3, .slice g4 f.hands.length p4, .slice g5 f.vars.length p5], .agg #[.int .i64 40, .int .i64 x, .int .i64 y]] w fun e w' => EffPost m f ⟨40, x, y⟩ w e w' := by
  obtain ⟨hI, h1, h2, h3, h4, h5, h6⟩ := h
  obtain ⟨_, ⟨gf, cf, rfl, _, _⟩, _⟩ := hI.img.funcs
  obtain ⟨gc, cc, rfl, _, _⟩ := hI.img.consts
  obtain ⟨_, ⟨gk, ck, rfl, _, _⟩, _⟩ := hI.img.classes
  have c0 := cell_al3 hI.c0
  have c1 := cell_al3 hI.c1
  have c2 := cell_al3 hI.c2
  have H := hide hI
  have hmf := mkf
  clear hI
  obtain ⟨bf, qf⟩ : ∃ c, inB y 0 50 = c := ⟨_, rfl⟩
  obtain ⟨bs, qs⟩ : ∃ c, belowB x f.slots = c := ⟨_, rfl⟩
  obtain ⟨ba, qa⟩ : ∃ c, belowB x f.code.length = c := ⟨_, rfl⟩
  obtain ⟨bn, qn⟩ : ∃ c, callB m x = c := ⟨_, rfl⟩
  go_enter Tryd.func30, Tryd.ntmps30
  go_wp2_with fail
  refine (within_is qf _).mono ?_
  rintro e wa ⟨rfl, rfl⟩
  go_wp2_with fail
  refine (within_bl qs _).mono ?_
  rintro e wa ⟨rfl, rfl⟩
  go_wp2_with fail
  refine (within_bl qa _).mono ?_
  rintro e wa ⟨rfl, rfl⟩
  go_wp2_with fail
  go_quiet ((go_at_call 16; exact Calls.quiet_of_same (same_back (within_cl qn _))))
  go_wp2_with fail
  exact bodyPost_ret (v := .tuple #[.bool true, .int .i64 1, .int .i64 0, .int .i64 (-1), .int .i64 0, .bool false]) (by simp [results, Tryd.results30, go_sem]) rfl (EffPost.mk rfl (fun _ => rfl) ⟨rfl, rfl, rfl, rfl⟩ (below3 _ _ _ _))

set_option maxRecDepth 100000 in
set_option maxHeartbeats 4000000 in
theorem ef_42 {w : World} {b : Nat} {m : PM} {vf vc vk : Value} {f : PF} {g3 g4 g5 : Option Addr} {p3 p4 p5 : Nat} (h : EffAsk w b m vf vc vk f g3 g4 g5 p3 p4 p5) (x y : Int) :
    Calls Tryd.prog 30 #[.pointer (some ⟨b, 0, none⟩), .agg #[.string f.name, .int .i64 f.params, .int .i64 f.slots, .slice g3 f.code.length p3, .slice g4 f.hands.length p4, .slice g5 f.vars.length p5], .agg #[.int .i64 42, .int .i64 x, .int .i64 y]] w fun e w' => EffPost m f ⟨42, x, y⟩ w e w' := by
  obtain ⟨hI, h1, h2, h3, h4, h5, h6⟩ := h
  obtain ⟨_, ⟨gf, cf, rfl, _, _⟩, _⟩ := hI.img.funcs
  obtain ⟨gc, cc, rfl, _, _⟩ := hI.img.consts
  obtain ⟨_, ⟨gk, ck, rfl, _, _⟩, _⟩ := hI.img.classes
  have c0 := cell_al3 hI.c0
  have c1 := cell_al3 hI.c1
  have c2 := cell_al3 hI.c2
  have H := hide hI
  have hmf := mkf
  clear hI
  obtain ⟨bf, qf⟩ : ∃ c, inB y 0 50 = c := ⟨_, rfl⟩
  obtain ⟨bs, qs⟩ : ∃ c, belowB x f.slots = c := ⟨_, rfl⟩
  obtain ⟨ba, qa⟩ : ∃ c, belowB x f.code.length = c := ⟨_, rfl⟩
  obtain ⟨bn, qn⟩ : ∃ c, callB m x = c := ⟨_, rfl⟩
  go_enter Tryd.func30, Tryd.ntmps30
  go_wp2_with fail
  refine (within_is qf _).mono ?_
  rintro e wa ⟨rfl, rfl⟩
  go_wp2_with fail
  refine (within_bl qs _).mono ?_
  rintro e wa ⟨rfl, rfl⟩
  go_wp2_with fail
  refine (within_bl qa _).mono ?_
  rintro e wa ⟨rfl, rfl⟩
  go_wp2_with fail
  go_quiet ((go_at_call 16; exact Calls.quiet_of_same (same_back (within_cl qn _))))
  go_wp2_with fail
  exact bodyPost_ret (v := .tuple #[.bool true, .int .i64 1, .int .i64 0, .int .i64 (-1), .int .i64 0, .bool true]) (by simp [results, Tryd.results30, go_sem]) rfl (EffPost.mk rfl (fun _ => rfl) ⟨rfl, rfl, rfl, rfl⟩ (below3 _ _ _ _))

set_option maxRecDepth 100000 in
set_option maxHeartbeats 4000000 in
theorem ef_44 {w : World} {b : Nat} {m : PM} {vf vc vk : Value} {f : PF} {g3 g4 g5 : Option Addr} {p3 p4 p5 : Nat} (h : EffAsk w b m vf vc vk f g3 g4 g5 p3 p4 p5) (x y : Int) :
    Calls Tryd.prog 30 #[.pointer (some ⟨b, 0, none⟩), .agg #[.string f.name, .int .i64 f.params, .int .i64 f.slots, .slice g3 f.code.length p3, .slice g4 f.hands.length p4, .slice g5 f.vars.length p5], .agg #[.int .i64 44, .int .i64 x, .int .i64 y]] w fun e w' => EffPost m f ⟨44, x, y⟩ w e w' := by
  obtain ⟨hI, h1, h2, h3, h4, h5, h6⟩ := h
  obtain ⟨_, ⟨gf, cf, rfl, _, _⟩, _⟩ := hI.img.funcs
  obtain ⟨gc, cc, rfl, _, _⟩ := hI.img.consts
  obtain ⟨_, ⟨gk, ck, rfl, _, _⟩, _⟩ := hI.img.classes
  have c0 := cell_al3 hI.c0
  have c1 := cell_al3 hI.c1
  have c2 := cell_al3 hI.c2
  have H := hide hI
  have hmf := mkf
  clear hI
  obtain ⟨bf, qf⟩ : ∃ c, inB y 0 50 = c := ⟨_, rfl⟩
  obtain ⟨bs, qs⟩ : ∃ c, belowB x f.slots = c := ⟨_, rfl⟩
  obtain ⟨ba, qa⟩ : ∃ c, belowB x f.code.length = c := ⟨_, rfl⟩
  obtain ⟨bn, qn⟩ : ∃ c, callB m x = c := ⟨_, rfl⟩
  go_enter Tryd.func30, Tryd.ntmps30
  go_wp2_with fail
  refine (within_is qf _).mono ?_
  rintro e wa ⟨rfl, rfl⟩
  go_wp2_with fail
  refine (within_bl qs _).mono ?_
  rintro e wa ⟨rfl, rfl⟩
  go_wp2_with fail
  refine (within_bl qa _).mono ?_
  rintro e wa ⟨rfl, rfl⟩
  go_wp2_with fail
  go_quiet ((go_at_call 16; exact Calls.quiet_of_same (same_back (within_cl qn _))))
  go_wp2_with fail
  exact bodyPost_ret (v := .tuple #[.bool true, .int .i64 1, .int .i64 1, .int .i64 (-1), .int .i64 0, .bool true]) (by simp [results, Tryd.results30, go_sem]) rfl (EffPost.mk rfl (fun _ => rfl) ⟨rfl, rfl, rfl, rfl⟩ (below3 _ _ _ _))
end Go.Proofs.YtkafldkhmkdafaaDoor
