/-
  The document's Encode.
-/
import Derived.Test.YtkafldkhmkdafaaDoorM24
import Derived.Lib.SlBytesConst
namespace Go.Proofs.YtkafldkhmkdafaaDoor
open Go.RowKit

theorem flat_take {X : Type} {l : List X} {k : Nat} {x : X} (h : l[k]? = some x) (f : X → List Int) : (l.take (k + 1)).flatMap f = (l.take k).flatMap f ++ f x := by
  rw [List.take_add_one, h, List.flatMap_append]
  simp
theorem flat_len {X : Type} {l : List X} {k : Nat} {x : X} (h : l[k]? = some x) (f : X → List Int) (a : List Int) : (a ++ (l.take k).flatMap f ++ f x).length ≤ (a ++ l.flatMap f).length := by
  have e : l.flatMap f = (l.take (k + 1)).flatMap f ++ (l.drop (k + 1)).flatMap f := by rw [← List.flatMap_append, List.take_append_drop]
  rw [e, flat_take h]
  simp only [List.length_append]
  omega
/-- So much was written, and this is what stays. -/
def Wrote (w : World) (cur : List Int) (W : World) : Prop := Wt w.heap.size (w.heap.size + 1) true W cur ∧ FrU w.heap.size (w.heap.size + 1) w W
theorem Wrote.nums {w W W' : World} {cur add : List Int} {o : Obj} (h : Wrote w cur W) (hw : Wt w.heap.size (w.heap.size + 1) true W' add) (hf : FrU w.heap.size (w.heap.size + 1) (W.alloc o) W') : Wrote w add W' :=
  ⟨hw, h.2.trans ((FrU.of_below ((Below.refl _ _).alloc (Nat.le_refl _) o) h.1.sz).trans hf)⟩
theorem Wrote.texts {w W W' : World} {cur add : List Int} (h : Wrote w cur W) (hw : Wt w.heap.size (w.heap.size + 1) true W' add) (hf : FrU w.heap.size (w.heap.size + 1) W W') : Wrote w add W' := ⟨hw, h.2.trans hf⟩
theorem Wrote.alloc {w W : World} {cur : List Int} (h : Wrote w cur W) (o : Obj) : Wrote w cur (W.alloc o) := h.texts (h.1.alloc o) (FrU.of_below ((Below.refl _ _).alloc (Nat.le_refl _) o) h.1.sz)
theorem Wrote.cell {w W : World} {cur : List Int} (h : Wrote w cur W) {a : Addr} {v : Value} (hc : w.cell? a = some v) : W.cell? a = some v := cellk h.2.toBelow hc (cell_lt hc)
theorem Wrote.qlt {w W : World} {cur : List Int} (h : Wrote w cur W) : w.heap.size + 1 < W.heap.size := by
  obtain ⟨v, h1, _⟩ := h.1.blk
  exact hlt h1
theorem Wrote.eq {w W : World} {cur cur' : List Int} (h : Wrote w cur W) (e : cur = cur') : Wrote w cur' W := e ▸ h
def EncPost (w : World) (m : PM) (e : Ending) (w' : World) : Prop := ∃ v, e = .returned v ∧ Below w.heap.size w w' ∧ w'.ownsRow w.heap.size 5 1 v (encImg m).length ((encImg m).map bv)
def byteRow (l : List Int) (i _j : Nat) : Value := match l[i]? with
  | some x => bv x
  | none => undef
theorem Flat.bytes (l : List Int) : Flat (l.map bv) l.length 1 (byteRow l) := fun i j hi hj => by
  have : j = 0 := by omega
  subst this
  unfold byteRow
  simp [hi]
theorem byteRow_get {l : List Int} {k : Nat} (h : k < l.length) (j : Nat) : byteRow l k j = bv (l.getD k 0) := by
  unfold byteRow
  simp [List.getD, h]
theorem alloc_keep {W W' : World} {o ob : Obj} (hW : W.alloc o = W') {k : Nat} (h : W.heap[k]? = some ob) : W'.heap[k]? = some ob := by
  rw [← hW]
  exact (Below.heap_alloc _ _ _ (hlt h)).trans h
theorem i64Nat {n : Nat} (h : n ≤ 200000) : I64 (n : Int) := ⟨by omega, by omega⟩
theorem i64s1 {a : Int} (ha : I64 a) : ∀ n ∈ [a], I64 n := fun n hn => by
  obtain rfl := List.mem_singleton.1 hn
  exact ha
theorem i64s2 {a b : Int} (ha : I64 a) (hb : I64 b) : ∀ n ∈ [a, b], I64 n := fun n hn => by
  simp at hn
  rcases hn with rfl | rfl
  · exact ha
  · exact hb
theorem i64s3 {a b c : Int} (ha : I64 a) (hb : I64 b) (hc : I64 c) : ∀ n ∈ [a, b, c], I64 n := fun n hn => by
  simp at hn
  rcases hn with rfl | rfl | rfl
  · exact ha
  · exact hb
  · exact hc
theorem i64s4 {a b c d : Int} (ha : I64 a) (hb : I64 b) (hc : I64 c) (hd : I64 d) : ∀ n ∈ [a, b, c, d], I64 n := fun n hn => by
  simp at hn
  rcases hn with rfl | rfl | rfl | rfl
  · exact ha
  · exact hb
  · exact hc
  · exact hd
theorem i640 : I64 0 := ⟨by decide, by decide⟩
theorem i641 : I64 1 := ⟨by decide, by decide⟩
theorem flat_ge {X : Type} (l : List X) (f : X → List Int) (h : ∀ x, 0 < (f x).length) : l.length ≤ (l.flatMap f).length := by
  induction l with
  | nil => simp
  | cons x l ih =>
    have := h x
    simp only [List.flatMap_cons, List.length_append, List.length_cons]
    omega
theorem encT_pos (s : ByteArray) : 0 < (encT s).length := by rw [encT_length]; have := encN_pos s.size; omega
theorem encI_pos (x : PI) : 0 < (encI x).length := by have := encN_pos x.op; simp only [encI, List.length_append]; omega
theorem encH_pos (x : PH) : 0 < (encH x).length := by have := encN_pos x.fr; simp only [encH, List.length_append]; omega
theorem encV_pos (x : PV) : 0 < (encV x).length := by have := encT_pos x.name; simp only [encV, List.length_append]; omega
theorem encP_pos (x : ByteArray × Int) : 0 < (encP x).length := by have := encT_pos x.1; simp only [encP, List.length_append]; omega
theorem encC_pos (c : PC) : 0 < (encC c).length := by
  unfold encC
  split
  · have := encN_pos 1
    simp only [List.length_append]
    omega
  · have := encN_pos 0
    simp only [List.length_append]
    omega
theorem StrsAt.row {w : World} {g : Option Addr} {n : Nat} {l : List ByteArray} (h : RowsAt w g n 1 (strRow l)) {x : Nat} {s : ByteArray} (hi : l[x]? = some s) (hn : x < n) : ∃ b o, g = some ⟨b, o, none⟩ ∧ w.cell? ⟨b, o + x, none⟩ = some (.string s) := by
  obtain ⟨b, o, h1, h2⟩ := h x hn
  refine ⟨b, o, h1, ?_⟩
  have := h2 0 (by omega)
  rw [strRow, hi] at this
  simpa using this
theorem IntsAt.row {w : World} {g : Option Addr} {n : Nat} {l : List Int} (h : RowsAt w g n 1 (intRow l)) {x : Nat} {s : Int} (hi : l[x]? = some s) (hn : x < n) : ∃ b o, g = some ⟨b, o, none⟩ ∧ w.cell? ⟨b, o + x, none⟩ = some (.int .i64 s) := by
  obtain ⟨b, o, h1, h2⟩ := h x hn
  refine ⟨b, o, h1, ?_⟩
  have := h2 0 (by omega)
  rw [intRow, hi] at this
  simpa using this

set_option maxRecDepth 100000 in
set_option maxHeartbeats 20000000 in
theorem encode_any {w : World} {b : Nat} {m : PM} {vf vc vk : Value} (h : ImgAt w b m vf vc vk) (hok : okM m) (hby : ∀ x ∈ encImg m, 0 ≤ x ∧ x < 256) (hlen : (encImg m).length ≤ 150000) :
    Calls Tryd.prog 13 #[.pointer (some ⟨b, 0, none⟩)] w fun e w' => EncPost w m e w' := by
  obtain ⟨RF, ⟨gf, capf, rfl, nf, rf⟩, hRF⟩ := h.img.funcs
  obtain ⟨gc, capc, rfl, nc, rc⟩ := h.img.consts
  obtain ⟨RK, ⟨gk, capk, rfl, nk, rk⟩, hRK⟩ := h.img.classes
  have HRF := hide rf
  have HRRF := hide hRF
  have HRK := hide rk
  have HRRK := hide hRK
  have HRC := hide rc
  have HM0 := hide h.c0
  have HM1 := hide h.c1
  have HM2 := hide h.c2
  have HOK := hide hok
  have HBY := hide hby
  have hl2 := hlen
  simp only [encImg, encM, encL, List.length_append] at hl2
  have HLEN := hide hl2
  have c1 := h.c1
  have hbl : b < w.heap.size := cell_lt h.c0
  have lC : m.consts.length ≤ 150000 := by have := flat_ge m.consts encC encC_pos; omega
  have lK : m.classes.length ≤ 150000 := by have := flat_ge m.classes encK (fun c => by have := encT_pos c.name; simp only [encK, List.length_append]; omega); omega
  have lF : m.funcs.length ≤ 150000 := by have := flat_ge m.funcs encF (fun c => by have := encT_pos c.name; simp only [encF, List.length_append]; omega); omega
  have kc := fun (w : World) (C : Array Value) (n c : Nat) => Go.Lib.run_convert_bytes_const (P := Tryd.prog) w 40 5 C n c Tryd.underlying40 Tryd.underlying5
  obtain ⟨W0, hW0⟩ : ∃ W0, (w.alloc (.cells #[.int .u8 82, .int .u8 87, .int .u8 78, .int .u8 68] 5 (4, 5))).alloc (.cells #[.slice (some ⟨w.heap.size, 0, none⟩) 4 4] 100) = W0 := ⟨_, rfl⟩
  have HB0 : Hid (Below w.heap.size w W0) := by rw [← hW0]; exact ((Below.refl _ _).alloc (Nat.le_refl _) _).alloc (by simp) _
  have HS0 : Hid (Wt w.heap.size (w.heap.size + 1) false W0 [82, 87, 78, 68]) := by
    refine ⟨⟨.slice (some ⟨w.heap.size, 0, none⟩) 4 4, ?_, Or.inr ⟨rfl, w.heap.size, rfl, Nat.le_refl _, ?_, rfl⟩⟩, by omega, (unhide HB0).size⟩
    · rw [← hW0]
      simpa using hnew (w.alloc (.cells #[.int .u8 82, .int .u8 87, .int .u8 78, .int .u8 68] 5 (4, 5))) (.cells #[.slice (some ⟨w.heap.size, 0, none⟩) 4 4] 100)
    · rw [← hW0, Below.heap_alloc _ _ _ (by simp)]
      exact hnew _ _
  have hq0 : w.heap.size + 1 < W0.heap.size := by rw [← hW0]; simp
  have d1 : W0.cell? ⟨b, 1, none⟩ = _ := cellk (unhide HB0) c1 hbl
  clear h rf hRF rk hRK rc hok hlen hl2 c1 hby
  go_enter Tryd.func13, Tryd.ntmps13
  go_wp2_with fail
  obtain ⟨c0, hc0⟩ : ∃ c : List Int, [82, 87, 78, 68] = c := ⟨_, rfl⟩
  have HL0 : Hid (c0.length + (encN m.consts.length).length + (m.consts.flatMap encC).length + (encN m.classes.length).length + (m.classes.flatMap encK).length + (encN m.funcs.length).length + (m.funcs.flatMap encF).length + (encN (sumL (encM m))).length ≤ 150000) := by
    have := unhide HLEN
    show _ ≤ 150000
    rw [← hc0]
    simp only [List.length_cons, List.length_nil, encM, encL] at this ⊢
    omega
  rw [hc0] at HS0
  have HC0' := hide hc0
  clear hc0 d1
  refine (num_any (nb := W0.heap.size) ((unhide HS0).alloc (.cells #[.int .i64 m.consts.length] 3)) [(m.consts.length : Int)] (i64s1 (i64Nat (by omega))) (by have := unhide HL0; simp; omega) (by simp) (by simp) (hnew _ _) (by omega) 1).mono ?_
  rintro e W1 ⟨rfl, hw, hf⟩
  obtain ⟨c1, hc1⟩ : ∃ c, c0 ++ (encN m.consts.length) = c := ⟨_, rfl⟩
  have HW1 : Hid (Wrote w c1 W1) := by
    rw [← hc1]
    have h1 : Wt w.heap.size (w.heap.size + 1) true W1 (c0 ++ encN m.consts.length) := by simpa using hw
    exact ⟨h1, (FrU.of_below (unhide HB0) (Nat.le_refl _)).trans ((FrU.of_below ((Below.refl _ _).alloc (Nat.le_refl _) _) (unhide HB0).size).trans hf)⟩
  have HL1 : Hid (c1.length + (m.consts.flatMap encC).length + (encN m.classes.length).length + (m.classes.flatMap encK).length + (encN m.funcs.length).length + (m.funcs.flatMap encF).length + (encN (sumL (encM m))).length ≤ 150000) := by
    have := unhide HL0
    show _ ≤ 150000
    rw [← hc1]
    simp only [List.length_append] at this ⊢
    omega
  have HC1' := hide hc1
  have d1 := (unhide HW1).cell (unhide HM1)
  clear hw hf hc1 hq0 HB0 HS0
  go_wp2_with fail
  clear d1
  go_loopg [41] m.consts.length (fun gg i wr => ∃ (k : Nat), k ≤ m.consts.length ∧ gg = m.consts.length - k ∧ i = .int .i64 k ∧ Hid (Wrote w (c1 ++ (m.consts.take k).flatMap encC) wr))
  case atStart => exact ⟨0, Nat.zero_le _, rfl, rfl, (unhide HW1).eq (by simp)⟩
  case round =>
    rename World => W2
    obtain ⟨k41, hk, rfl, rfl, HY⟩ := hrel
    by_cases hlk : k41 < m.consts.length
    · obtain ⟨x41, hx⟩ : ∃ x, m.consts[k41]? = some x := ⟨_, List.getElem?_eq_getElem hlk⟩
      have HX41 := hide hx
      have hk2 : (k41 : Int) < (m.consts.length : Int) := by omega
      obtain ⟨c2, hc2⟩ : ∃ c, c1 ++ (m.consts.take k41).flatMap encC = c := ⟨_, rfl⟩
      have HW2 : Hid (Wrote w c2 W2) := (unhide HY).eq hc2
      have HR : Hid (c2.length + (encC x41).length ≤ 150000) := by
        have h1 := flat_len hx encC c1
        have h2 := unhide HL1
        show _ ≤ 150000
        rw [← hc2]
        simp only [List.length_append] at h1 h2 ⊢
        omega
      have HC2 := hide hc2
      clear hx hc2 HY
      obtain ⟨gb, go, rfl, j0, j1, j2⟩ := ConstsAt.at (unhide HRC) (unhide HX41) hlk
      have l0 := (unhide HW2).cell j0
      have l1 := (unhide HW2).cell j1
      have l2 := (unhide HW2).cell j2
      have hcn : I64 x41.n := (unhide HOK).1 x41 (List.mem_of_getElem? (unhide HX41))
      clear j0 j1 j2
      obtain ⟨W3, hW3⟩ : ∃ W', W2.alloc (.cells #[.bool x41.text, .string x41.s, .int .i64 x41.n] 77) = W' := ⟨_, rfl⟩
      obtain ⟨cb, hcb⟩ : ∃ cb, W2.heap.size = cb := ⟨_, rfl⟩
      have KC3 : Hid (W3.heap[cb]? = some (.cells #[.bool x41.text, .string x41.s, .int .i64 x41.n] 77 (0, 0))) := by rw [← hW3, ← hcb]; exact hnew _ _
      have HQcb := hide (show cb ≠ w.heap.size + 1 by have := (unhide HW2).qlt; omega)
      have HW3 : Hid (Wrote w c2 W3) := by rw [← hW3]; exact (unhide HW2).alloc _
      have pKC0 : W3.cell? ⟨cb, 0, none⟩ = some (.bool x41.text) := hcell (unhide KC3) 0
      have pKC1 : W3.cell? ⟨cb, 1, none⟩ = some (.string x41.s) := hcell (unhide KC3) 1
      have pKC2 : W3.cell? ⟨cb, 2, none⟩ = some (.int .i64 x41.n) := hcell (unhide KC3) 2
      cases ht : x41.text with
      | true =>
        have HT := hide ht
        rw [ht] at l0 pKC0
        have KT3 := hide ((unhide KC3))
        have hWt : W2.alloc (.cells #[.bool true, .string x41.s, .int .i64 x41.n] 77) = W3 := by rw [← ht]; exact hW3
        clear hW3 ht KT3
        have HL2 : Hid (c2.length + (encN 1).length + (encT x41.s).length ≤ 150000) := by
          have := unhide HR
          show c2.length + (encN 1).length + (encT x41.s).length ≤ 150000
          rw [encC, unhide HT, if_pos rfl] at this
          simp only [List.length_append] at this ⊢
          omega
        clear HR
        go_wp2_with fail
        clear l0 l1 l2 hWt
        clear pKC0 pKC1 pKC2
        refine (num_any (nb := W3.heap.size) ((unhide HW3).1.alloc (.cells #[.int .i64 1] 3)) [1] (i64s1 i641) (by have := unhide HL2; simp; omega) (by simp) (by simp) (hnew _ _) (by have := (unhide HW3).qlt; omega) 1).mono ?_
        rintro e W4 ⟨rfl, hw, hf⟩
        obtain ⟨c3, hc3⟩ : ∃ c, c2 ++ (encN 1) = c := ⟨_, rfl⟩
        have HW4 : Hid (Wrote w c3 W4) := by
          have := (unhide HW3).nums hw hf
          show Wrote w c3 W4
          rw [← hc3]
          simpa using this
        have HL3 : Hid (c3.length + (encT x41.s).length ≤ 150000) := by
          have := unhide HL2
          show c3.length + (encT x41.s).length ≤ 150000
          rw [← hc3]
          simp only [List.length_append] at this ⊢
          omega
        have HC3 := hide hc3
        have KC4 := hide (hf.keep _ _ _ _ ((Below.heap_alloc _ _ _ (hlt (unhide KC3))).trans (unhide KC3)) (by decide) (unhide HQcb))
        clear hw hf hc3
        have pKC1 : W4.cell? ⟨cb, 1, none⟩ = some (.string x41.s) := hcell (unhide KC4) 1
        go_wp2_with fail
        clear pKC1
        refine (wtext_any (unhide HW4).1 x41.s (by have := unhide HL3; simp; omega)).mono ?_
        rintro e W5 ⟨rfl, hw, hf⟩
        obtain ⟨c4, hc4⟩ : ∃ c, c3 ++ (encT x41.s) = c := ⟨_, rfl⟩
        have HW5 : Hid (Wrote w c4 W5) := by
          have := (unhide HW4).texts hw hf
          show Wrote w c4 W5
          rw [← hc4]
          simpa using this
        have HL4 : Hid (c4.length ≤ 150000) := by
          have := unhide HL3
          show c4.length ≤ 150000
          rw [← hc4]
          simp only [List.length_append] at this ⊢
          omega
        have HC4 := hide hc4
        have KC5 := hide (hf.keep _ _ _ _ (unhide KC4) (by decide) (unhide HQcb))
        clear hw hf hc4
        go_wp2_with fail
        go_roundg (m.consts.length - (k41 + 1))
        case measure => omega
        case rel =>
          refine ⟨k41 + 1, by omega, rfl, by go_num, (unhide HW5).eq ?_⟩
          rw [flat_take (unhide HX41), ← unhide HC4, ← unhide HC3, ← unhide HC2]
          simp [encC, unhide HT]
      | false =>
        have HT := hide ht
        rw [ht] at l0 pKC0
        have KT3 := hide ((unhide KC3))
        have hWt : W2.alloc (.cells #[.bool false, .string x41.s, .int .i64 x41.n] 77) = W3 := by rw [← ht]; exact hW3
        clear hW3 ht KT3
        have HL2 : Hid (c2.length + (encN 0).length + (encN x41.n).length ≤ 150000) := by
          have := unhide HR
          show c2.length + (encN 0).length + (encN x41.n).length ≤ 150000
          rw [encC, unhide HT, if_neg (by decide)] at this
          simp only [List.length_append] at this ⊢
          omega
        clear HR
        go_wp2_with fail
        clear l0 l1 l2 hWt
        clear pKC0 pKC1 pKC2
        refine (num_any (nb := W3.heap.size) ((unhide HW3).1.alloc (.cells #[.int .i64 0, .int .i64 x41.n] 3)) [0, x41.n] (i64s2 i640 hcn) (by have := unhide HL2; simp; omega) (by simp) (by simp) (hnew _ _) (by have := (unhide HW3).qlt; omega) 2).mono ?_
        rintro e W4 ⟨rfl, hw, hf⟩
        obtain ⟨c3, hc3⟩ : ∃ c, c2 ++ (encN 0 ++ (encN x41.n)) = c := ⟨_, rfl⟩
        have HW4 : Hid (Wrote w c3 W4) := by
          have := (unhide HW3).nums hw hf
          show Wrote w c3 W4
          rw [← hc3]
          simpa using this
        have HL3 : Hid (c3.length ≤ 150000) := by
          have := unhide HL2
          show c3.length ≤ 150000
          rw [← hc3]
          simp only [List.length_append] at this ⊢
          omega
        have HC3 := hide hc3
        have KC4 := hide (hf.keep _ _ _ _ ((Below.heap_alloc _ _ _ (hlt (unhide KC3))).trans (unhide KC3)) (by decide) (unhide HQcb))
        clear hw hf hc3
        go_wp2_with fail
        go_roundg (m.consts.length - (k41 + 1))
        case measure => omega
        case rel =>
          refine ⟨k41 + 1, by omega, rfl, by go_num, (unhide HW4).eq ?_⟩
          rw [flat_take (unhide HX41), ← unhide HC3, ← unhide HC2]
          simp [encC, unhide HT]
    · obtain rfl : k41 = m.consts.length := by omega
      have hk2 : ¬ ((m.consts.length : Nat) : Int) < (m.consts.length : Int) := by omega
      obtain ⟨c2, hc2⟩ : ∃ c, c1 ++ m.consts.flatMap encC = c := ⟨_, rfl⟩
      have HW2 : Hid (Wrote w c2 W2) := (unhide HY).eq (by rw [← hc2, List.take_length])
      have HL2 : Hid (c2.length + (encN m.classes.length).length + (m.classes.flatMap encK).length + (encN m.funcs.length).length + (m.funcs.flatMap encF).length + (encN (sumL (encM m))).length ≤ 150000) := by
        have := unhide HL1
        show c2.length + (encN m.classes.length).length + (m.classes.flatMap encK).length + (encN m.funcs.length).length + (m.funcs.flatMap encF).length + (encN (sumL (encM m))).length ≤ 150000
        rw [← hc2]
        simp only [List.length_append] at this ⊢
        omega
      have HC2 := hide hc2
      clear hc2 HY hlk hk
      have d2 := (unhide HW2).cell (unhide HM2)
      go_wp2_with fail
      clear d2
      refine (num_any (nb := W2.heap.size) ((unhide HW2).1.alloc (.cells #[.int .i64 (m.classes.length : Int)] 3)) [(m.classes.length : Int)] (i64s1 (i64Nat (by omega))) (by have := unhide HL2; simp; omega) (by simp) (by simp) (hnew _ _) (by have := (unhide HW2).qlt; omega) 1).mono ?_
      rintro e W3 ⟨rfl, hw, hf⟩
      obtain ⟨c3, hc3⟩ : ∃ c, c2 ++ (encN (m.classes.length : Int)) = c := ⟨_, rfl⟩
      have HW3 : Hid (Wrote w c3 W3) := by
        have := (unhide HW2).nums hw hf
        show Wrote w c3 W3
        rw [← hc3]
        simpa using this
      have HL3 : Hid (c3.length + (m.classes.flatMap encK).length + (encN m.funcs.length).length + (m.funcs.flatMap encF).length + (encN (sumL (encM m))).length ≤ 150000) := by
        have := unhide HL2
        show c3.length + (m.classes.flatMap encK).length + (encN m.funcs.length).length + (m.funcs.flatMap encF).length + (encN (sumL (encM m))).length ≤ 150000
        rw [← hc3]
        simp only [List.length_append] at this ⊢
        omega
      have HC3 := hide hc3
      clear hw hf hc3
      have d2 := (unhide HW3).cell (unhide HM2)
      go_wp2_with fail
      clear d2
      go_loopg [73] m.classes.length (fun gg i wr => ∃ (k : Nat), k ≤ m.classes.length ∧ gg = m.classes.length - k ∧ i = .int .i64 k ∧ Hid (Wrote w (c3 ++ (m.classes.take k).flatMap encK) wr))
      case atStart => exact ⟨0, Nat.zero_le _, rfl, rfl, (unhide HW3).eq (by simp)⟩
      case round =>
        rename World => W4
        obtain ⟨k73, hk, rfl, rfl, HY⟩ := hrel
        by_cases hlk : k73 < m.classes.length
        · obtain ⟨x73, hx⟩ : ∃ x, m.classes[k73]? = some x := ⟨_, List.getElem?_eq_getElem hlk⟩
          have HX73 := hide hx
          have hk2 : (k73 : Int) < (m.classes.length : Int) := by omega
          obtain ⟨c4, hc4⟩ : ∃ c, c3 ++ (m.classes.take k73).flatMap encK = c := ⟨_, rfl⟩
          have HW4 : Hid (Wrote w c4 W4) := (unhide HY).eq hc4
          have HR : Hid (c4.length + (encK x73).length ≤ 150000) := by
            have h1 := flat_len hx encK c3
            have h2 := unhide HL3
            show _ ≤ 150000
            rw [← hc4]
            simp only [List.length_append] at h1 h2 ⊢
            omega
          have HC4 := hide hc4
          clear hx hc4 HY
          obtain ⟨gb, go, rfl, hkd⟩ := KdAt.of_rows (unhide HRK) hlk ((unhide HRRK) _ _ (unhide HX73))
          obtain ⟨E0, E1, ⟨g2, cap2, E2, _, r2⟩, ⟨g3, cap3, E3, _, r3⟩, ⟨g4, cap4, E4, _, r4⟩⟩ := hkd.kd
          have l0 := (unhide HW4).cell hkd.c0
          have l1 := (unhide HW4).cell hkd.c1
          have l2 := (unhide HW4).cell hkd.c2
          have l3 := (unhide HW4).cell hkd.c3
          have l4 := (unhide HW4).cell hkd.c4
          rw [E2] at l2
          rw [E3] at l3
          rw [E4] at l4
          have HR2 := hide r2
          have HR3 := hide r3
          have HR4 := hide r4
          obtain ⟨okA, okB, okE⟩ : okK x73 := (unhide HOK).2.1 x73 (List.mem_of_getElem? (unhide HX73))
          have HOA := hide okA
          have HOB := hide okB
          have HOE := hide okE
          have lf : x73.fields.length ≤ 150000 := by have := flat_ge x73.fields encT encT_pos; have := unhide HR; simp only [encK, encL, List.length_append] at this; omega
          have ln : x73.names.length ≤ 150000 := by
            have h1 := flat_ge (x73.names.zip x73.meths) encP encP_pos
            have := unhide HR
            have okE2 := unhide HOE
            rw [List.length_zip] at h1
            simp only [encK, encL, List.length_append] at this
            omega
          clear hkd E0 E1 E2 E3 E4 r2 r3 r4 okA okB okE
          obtain ⟨W5, hW5⟩ : ∃ W', W4.alloc (.cells #[.string x73.name, .int .i64 x73.above, .slice g2 x73.fields.length cap2, .slice g3 x73.names.length cap3, .slice g4 x73.meths.length cap4] 68) = W' := ⟨_, rfl⟩
          obtain ⟨kb, hkb⟩ : ∃ cb, W4.heap.size = cb := ⟨_, rfl⟩
          have KD5 : Hid (W5.heap[kb]? = some (.cells #[.string x73.name, .int .i64 x73.above, .slice g2 x73.fields.length cap2, .slice g3 x73.names.length cap3, .slice g4 x73.meths.length cap4] 68 (0, 0))) := by rw [← hW5, ← hkb]; exact hnew _ _
          have HQkb := hide (show kb ≠ w.heap.size + 1 by have := (unhide HW4).qlt; omega)
          have HW5 : Hid (Wrote w c4 W5) := by rw [← hW5]; exact (unhide HW4).alloc _
          have HL4 : Hid (c4.length + (encT x73.name).length + (encN x73.above).length + (encN x73.fields.length).length + (x73.fields.flatMap encT).length + (encN x73.names.length).length + ((x73.names.zip x73.meths).flatMap encP).length ≤ 150000) := by
            have := unhide HR
            show c4.length + (encT x73.name).length + (encN x73.above).length + (encN x73.fields.length).length + (x73.fields.flatMap encT).length + (encN x73.names.length).length + ((x73.names.zip x73.meths).flatMap encP).length ≤ 150000
            rw [encK, encL] at this
            simp only [List.length_append] at this ⊢
            omega
          clear HR
          have pKD0 : W5.cell? ⟨kb, 0, none⟩ = some (.string x73.name) := hcell (unhide KD5) 0
          have pKD1 : W5.cell? ⟨kb, 1, none⟩ = some (.int .i64 x73.above) := hcell (unhide KD5) 1
          have pKD2 : W5.cell? ⟨kb, 2, none⟩ = some (.slice g2 x73.fields.length cap2) := hcell (unhide KD5) 2
          have pKD3 : W5.cell? ⟨kb, 3, none⟩ = some (.slice g3 x73.names.length cap3) := hcell (unhide KD5) 3
          have pKD4 : W5.cell? ⟨kb, 4, none⟩ = some (.slice g4 x73.meths.length cap4) := hcell (unhide KD5) 4
          go_wp2_with fail
          clear l0 l1 l2 l3 l4 hW5
          clear pKD0 pKD1 pKD2 pKD3 pKD4
          refine (wtext_any (unhide HW5).1 x73.name (by have := unhide HL4; simp; omega)).mono ?_
          rintro e W6 ⟨rfl, hw, hf⟩
          obtain ⟨c5, hc5⟩ : ∃ c, c4 ++ (encT x73.name) = c := ⟨_, rfl⟩
          have HW6 : Hid (Wrote w c5 W6) := by
            have := (unhide HW5).texts hw hf
            show Wrote w c5 W6
            rw [← hc5]
            simpa using this
          have HL5 : Hid (c5.length + (encN x73.above).length + (encN x73.fields.length).length + (x73.fields.flatMap encT).length + (encN x73.names.length).length + ((x73.names.zip x73.meths).flatMap encP).length ≤ 150000) := by
            have := unhide HL4
            show c5.length + (encN x73.above).length + (encN x73.fields.length).length + (x73.fields.flatMap encT).length + (encN x73.names.length).length + ((x73.names.zip x73.meths).flatMap encP).length ≤ 150000
            rw [← hc5]
            simp only [List.length_append] at this ⊢
            omega
          have HC5 := hide hc5
          have KD6 := hide (hf.keep _ _ _ _ (unhide KD5) (by decide) (unhide HQkb))
          clear hw hf hc5
          have pKD1 : W6.cell? ⟨kb, 1, none⟩ = some (.int .i64 x73.above) := hcell (unhide KD6) 1
          have pKD2 : W6.cell? ⟨kb, 2, none⟩ = some (.slice g2 x73.fields.length cap2) := hcell (unhide KD6) 2
          go_wp2_with fail
          clear pKD1 pKD2
          refine (num_any (nb := W6.heap.size) ((unhide HW6).1.alloc (.cells #[.int .i64 x73.above, .int .i64 (x73.fields.length : Int)] 3)) [x73.above, (x73.fields.length : Int)] (i64s2 (unhide HOA) (i64Nat (by omega))) (by have := unhide HL5; simp; omega) (by simp) (by simp) (hnew _ _) (by have := (unhide HW6).qlt; omega) 2).mono ?_
          rintro e W7 ⟨rfl, hw, hf⟩
          obtain ⟨c6, hc6⟩ : ∃ c, c5 ++ (encN x73.above ++ (encN (x73.fields.length : Int))) = c := ⟨_, rfl⟩
          have HW7 : Hid (Wrote w c6 W7) := by
            have := (unhide HW6).nums hw hf
            show Wrote w c6 W7
            rw [← hc6]
            simpa using this
          have HL6 : Hid (c6.length + (x73.fields.flatMap encT).length + (encN x73.names.length).length + ((x73.names.zip x73.meths).flatMap encP).length ≤ 150000) := by
            have := unhide HL5
            show c6.length + (x73.fields.flatMap encT).length + (encN x73.names.length).length + ((x73.names.zip x73.meths).flatMap encP).length ≤ 150000
            rw [← hc6]
            simp only [List.length_append] at this ⊢
            omega
          have HC6 := hide hc6
          have KD7 := hide (hf.keep _ _ _ _ ((Below.heap_alloc _ _ _ (hlt (unhide KD6))).trans (unhide KD6)) (by decide) (unhide HQkb))
          clear hw hf hc6
          have pKD2 : W7.cell? ⟨kb, 2, none⟩ = some (.slice g2 x73.fields.length cap2) := hcell (unhide KD7) 2
          go_wp2_with fail
          clear pKD2
          go_loopg [92] x73.fields.length (fun gg i wr => ∃ (k : Nat), k ≤ x73.fields.length ∧ gg = x73.fields.length - k ∧ i = .int .i64 k ∧ Hid (Wrote w (c6 ++ (x73.fields.take k).flatMap encT) wr) ∧ Hid (wr.heap[kb]? = some (.cells #[.string x73.name, .int .i64 x73.above, .slice g2 x73.fields.length cap2, .slice g3 x73.names.length cap3, .slice g4 x73.meths.length cap4] 68 (0, 0))))
          case atStart => exact ⟨0, Nat.zero_le _, rfl, rfl, (unhide HW7).eq (by simp), unhide KD7⟩
          case round =>
            rename World => W8
            obtain ⟨k92, hk, rfl, rfl, HY, KD8⟩ := hrel
            by_cases hlk : k92 < x73.fields.length
            · obtain ⟨x92, hx⟩ : ∃ x, x73.fields[k92]? = some x := ⟨_, List.getElem?_eq_getElem hlk⟩
              have HX92 := hide hx
              have hk2 : (k92 : Int) < (x73.fields.length : Int) := by omega
              obtain ⟨c7, hc7⟩ : ∃ c, c6 ++ (x73.fields.take k92).flatMap encT = c := ⟨_, rfl⟩
              have HW8 : Hid (Wrote w c7 W8) := (unhide HY).eq hc7
              have HR : Hid (c7.length + (encT x92).length ≤ 150000) := by
                have h1 := flat_len hx encT c6
                have h2 := unhide HL6
                show _ ≤ 150000
                rw [← hc7]
                simp only [List.length_append] at h1 h2 ⊢
                omega
              have HC7 := hide hc7
              clear hx hc7 HY
              obtain ⟨sb, so, rfl, j0⟩ := StrsAt.row (unhide HR2) (unhide HX92) hlk
              have l0 := (unhide HW8).cell j0
              clear j0
              have HL7 : Hid (c7.length + (encT x92).length ≤ 150000) := by
                have := unhide HR
                show c7.length + (encT x92).length ≤ 150000
                exact this
              clear HR
              go_wp2_with fail
              clear l0
              refine (wtext_any (unhide HW8).1 x92 (by have := unhide HL7; simp; omega)).mono ?_
              rintro e W9 ⟨rfl, hw, hf⟩
              obtain ⟨c8, hc8⟩ : ∃ c, c7 ++ (encT x92) = c := ⟨_, rfl⟩
              have HW9 : Hid (Wrote w c8 W9) := by
                have := (unhide HW8).texts hw hf
                show Wrote w c8 W9
                rw [← hc8]
                simpa using this
              have HL8 : Hid (c8.length ≤ 150000) := by
                have := unhide HL7
                show c8.length ≤ 150000
                rw [← hc8]
                simp only [List.length_append] at this ⊢
                omega
              have HC8 := hide hc8
              have KD9 := hide (hf.keep _ _ _ _ (unhide KD8) (by decide) (unhide HQkb))
              clear hw hf hc8
              go_wp2_with fail
              go_roundg (x73.fields.length - (k92 + 1))
              case measure => omega
              case rel =>
                refine ⟨k92 + 1, by omega, rfl, by go_num, (unhide HW9).eq ?_, unhide KD9⟩
                rw [flat_take (unhide HX92), ← unhide HC8, ← unhide HC7]
                simp
            · obtain rfl : k92 = x73.fields.length := by omega
              have hk2 : ¬ ((x73.fields.length : Nat) : Int) < (x73.fields.length : Int) := by omega
              obtain ⟨c7, hc7⟩ : ∃ c, c6 ++ x73.fields.flatMap encT = c := ⟨_, rfl⟩
              have HW8 : Hid (Wrote w c7 W8) := (unhide HY).eq (by rw [← hc7, List.take_length])
              have HL7 : Hid (c7.length + (encN x73.names.length).length + ((x73.names.zip x73.meths).flatMap encP).length ≤ 150000) := by
                have := unhide HL6
                show c7.length + (encN x73.names.length).length + ((x73.names.zip x73.meths).flatMap encP).length ≤ 150000
                rw [← hc7]
                simp only [List.length_append] at this ⊢
                omega
              have HC7 := hide hc7
              clear hc7 HY hlk hk
              have pKD3 : W8.cell? ⟨kb, 3, none⟩ = some (.slice g3 x73.names.length cap3) := hcell (unhide KD8) 3
              go_wp2_with fail
              clear pKD3
              refine (num_any (nb := W8.heap.size) ((unhide HW8).1.alloc (.cells #[.int .i64 (x73.names.length : Int)] 3)) [(x73.names.length : Int)] (i64s1 (i64Nat (by omega))) (by have := unhide HL7; simp; omega) (by simp) (by simp) (hnew _ _) (by have := (unhide HW8).qlt; omega) 1).mono ?_
              rintro e W9 ⟨rfl, hw, hf⟩
              obtain ⟨c8, hc8⟩ : ∃ c, c7 ++ (encN (x73.names.length : Int)) = c := ⟨_, rfl⟩
              have HW9 : Hid (Wrote w c8 W9) := by
                have := (unhide HW8).nums hw hf
                show Wrote w c8 W9
                rw [← hc8]
                simpa using this
              have HL8 : Hid (c8.length + ((x73.names.zip x73.meths).flatMap encP).length ≤ 150000) := by
                have := unhide HL7
                show c8.length + ((x73.names.zip x73.meths).flatMap encP).length ≤ 150000
                rw [← hc8]
                simp only [List.length_append] at this ⊢
                omega
              have HC8 := hide hc8
              have KD9 := hide (hf.keep _ _ _ _ ((Below.heap_alloc _ _ _ (hlt (unhide KD8))).trans (unhide KD8)) (by decide) (unhide HQkb))
              clear hw hf hc8
              have hzl : (x73.names.zip x73.meths).length = x73.names.length := by have := unhide HOE; simp; omega
              have pKD3 : W9.cell? ⟨kb, 3, none⟩ = some (.slice g3 x73.names.length cap3) := hcell (unhide KD9) 3
              go_wp2_with fail
              clear pKD3
              go_loopg [109] (x73.names.zip x73.meths).length (fun gg i wr => ∃ (k : Nat), k ≤ (x73.names.zip x73.meths).length ∧ gg = (x73.names.zip x73.meths).length - k ∧ i = .int .i64 k ∧ Hid (Wrote w (c8 ++ ((x73.names.zip x73.meths).take k).flatMap encP) wr) ∧ Hid (wr.heap[kb]? = some (.cells #[.string x73.name, .int .i64 x73.above, .slice g2 x73.fields.length cap2, .slice g3 x73.names.length cap3, .slice g4 x73.meths.length cap4] 68 (0, 0))))
              case atStart => exact ⟨0, Nat.zero_le _, rfl, rfl, (unhide HW9).eq (by simp), unhide KD9⟩
              case round =>
                rename World => W10
                obtain ⟨k109, hk, rfl, rfl, HY, KD10⟩ := hrel
                by_cases hlk : k109 < (x73.names.zip x73.meths).length
                · obtain ⟨x109, hx⟩ : ∃ x, (x73.names.zip x73.meths)[k109]? = some x := ⟨_, List.getElem?_eq_getElem hlk⟩
                  have HX109 := hide hx
                  have hk2 : (k109 : Int) < ((x73.names.zip x73.meths).length : Int) := by omega
                  obtain ⟨c9, hc9⟩ : ∃ c, c8 ++ ((x73.names.zip x73.meths).take k109).flatMap encP = c := ⟨_, rfl⟩
                  have HW10 : Hid (Wrote w c9 W10) := (unhide HY).eq hc9
                  have HR : Hid (c9.length + (encP x109).length ≤ 150000) := by
                    have h1 := flat_len hx encP c8
                    have h2 := unhide HL8
                    show _ ≤ 150000
                    rw [← hc9]
                    simp only [List.length_append] at h1 h2 ⊢
                    omega
                  have HC9 := hide hc9
                  clear hx hc9 HY
                  have hlk2 : k109 < x73.names.length := by rw [hzl] at hlk; exact hlk
                  have hlk3 : k109 < x73.meths.length := by have := unhide HOE; omega
                  obtain ⟨xs, xm⟩ := x109
                  have hxz := unhide HX109
                  rw [List.getElem?_zip_eq_some] at hxz
                  obtain ⟨sb, so, rfl, j0⟩ := StrsAt.row (unhide HR3) hxz.1 hlk2
                  obtain ⟨mb, mo, rfl, j1⟩ := IntsAt.row (unhide HR4) hxz.2 hlk3
                  have l0 := (unhide HW10).cell j0
                  have HJ1 := hide j1
                  have HOM := hide ((unhide HOB) xm (List.mem_of_getElem? hxz.2))
                  have hk3 : (k109 : Int) < (x73.names.length : Int) := by omega
                  have hk4 : (k109 : Int) < (x73.meths.length : Int) := by omega
                  clear j0 j1 hxz
                  have HL9 : Hid (c9.length + (encT xs).length + (encN xm).length ≤ 150000) := by
                    have := unhide HR
                    show c9.length + (encT xs).length + (encN xm).length ≤ 150000
                    rw [encP] at this
                    simp only [List.length_append] at this ⊢
                    omega
                  clear HR
                  go_wp2_with fail
                  clear l0
                  refine (wtext_any (unhide HW10).1 xs (by have := unhide HL9; simp; omega)).mono ?_
                  rintro e W11 ⟨rfl, hw, hf⟩
                  obtain ⟨c10, hc10⟩ : ∃ c, c9 ++ (encT xs) = c := ⟨_, rfl⟩
                  have HW11 : Hid (Wrote w c10 W11) := by
                    have := (unhide HW10).texts hw hf
                    show Wrote w c10 W11
                    rw [← hc10]
                    simpa using this
                  have HL10 : Hid (c10.length + (encN xm).length ≤ 150000) := by
                    have := unhide HL9
                    show c10.length + (encN xm).length ≤ 150000
                    rw [← hc10]
                    simp only [List.length_append] at this ⊢
                    omega
                  have HC10 := hide hc10
                  have KD11 := hide (hf.keep _ _ _ _ (unhide KD10) (by decide) (unhide HQkb))
                  clear hw hf hc10
                  have pKD4 : W11.cell? ⟨kb, 4, none⟩ = some (.slice (some ⟨mb, mo, none⟩) x73.meths.length cap4) := hcell (unhide KD11) 4
                  have l1 := (unhide HW11).cell (unhide HJ1)
                  go_wp2_with fail
                  clear pKD4
                  clear l1
                  refine (num_any (nb := W11.heap.size) ((unhide HW11).1.alloc (.cells #[.int .i64 xm] 3)) [xm] (i64s1 (unhide HOM)) (by have := unhide HL10; simp; omega) (by simp) (by simp) (hnew _ _) (by have := (unhide HW11).qlt; omega) 1).mono ?_
                  rintro e W12 ⟨rfl, hw, hf⟩
                  obtain ⟨c11, hc11⟩ : ∃ c, c10 ++ (encN xm) = c := ⟨_, rfl⟩
                  have HW12 : Hid (Wrote w c11 W12) := by
                    have := (unhide HW11).nums hw hf
                    show Wrote w c11 W12
                    rw [← hc11]
                    simpa using this
                  have HL11 : Hid (c11.length ≤ 150000) := by
                    have := unhide HL10
                    show c11.length ≤ 150000
                    rw [← hc11]
                    simp only [List.length_append] at this ⊢
                    omega
                  have HC11 := hide hc11
                  have KD12 := hide (hf.keep _ _ _ _ ((Below.heap_alloc _ _ _ (hlt (unhide KD11))).trans (unhide KD11)) (by decide) (unhide HQkb))
                  clear hw hf hc11
                  go_wp2_with fail
                  go_roundg ((x73.names.zip x73.meths).length - (k109 + 1))
                  case measure => omega
                  case rel =>
                    refine ⟨k109 + 1, by omega, rfl, by go_num, (unhide HW12).eq ?_, unhide KD12⟩
                    rw [flat_take (unhide HX109), ← unhide HC11, ← unhide HC10, ← unhide HC9]
                    simp [encP]
                · obtain rfl : k109 = (x73.names.zip x73.meths).length := by omega
                  have hk2 : ¬ (((x73.names.zip x73.meths).length : Nat) : Int) < ((x73.names.zip x73.meths).length : Int) := by omega
                  obtain ⟨c9, hc9⟩ : ∃ c, c8 ++ (x73.names.zip x73.meths).flatMap encP = c := ⟨_, rfl⟩
                  have HW10 : Hid (Wrote w c9 W10) := (unhide HY).eq (by rw [← hc9, List.take_length])
                  have HL9 : Hid (c9.length ≤ 150000) := by
                    have := unhide HL8
                    show c9.length ≤ 150000
                    rw [← hc9]
                    simp only [List.length_append] at this ⊢
                    omega
                  have HC9 := hide hc9
                  clear hc9 HY hlk hk
                  go_wp2_with fail
                  go_roundg (m.classes.length - (k73 + 1))
                  case measure => omega
                  case rel =>
                    refine ⟨k73 + 1, by omega, rfl, by go_num, (unhide HW10).eq ?_⟩
                    rw [flat_take (unhide HX73), ← unhide HC9, ← unhide HC8, ← unhide HC7, ← unhide HC6, ← unhide HC5, ← unhide HC4]
                    simp [encK, encL]
        · obtain rfl : k73 = m.classes.length := by omega
          have hk2 : ¬ ((m.classes.length : Nat) : Int) < (m.classes.length : Int) := by omega
          obtain ⟨c4, hc4⟩ : ∃ c, c3 ++ m.classes.flatMap encK = c := ⟨_, rfl⟩
          have HW4 : Hid (Wrote w c4 W4) := (unhide HY).eq (by rw [← hc4, List.take_length])
          have HL4 : Hid (c4.length + (encN m.funcs.length).length + (m.funcs.flatMap encF).length + (encN (sumL (encM m))).length ≤ 150000) := by
            have := unhide HL3
            show c4.length + (encN m.funcs.length).length + (m.funcs.flatMap encF).length + (encN (sumL (encM m))).length ≤ 150000
            rw [← hc4]
            simp only [List.length_append] at this ⊢
            omega
          have HC4 := hide hc4
          clear hc4 HY hlk hk
          have d3 := (unhide HW4).cell (unhide HM0)
          go_wp2_with fail
          clear d3
          refine (num_any (nb := W4.heap.size) ((unhide HW4).1.alloc (.cells #[.int .i64 (m.funcs.length : Int)] 3)) [(m.funcs.length : Int)] (i64s1 (i64Nat (by omega))) (by have := unhide HL4; simp; omega) (by simp) (by simp) (hnew _ _) (by have := (unhide HW4).qlt; omega) 1).mono ?_
          rintro e W5 ⟨rfl, hw, hf⟩
          obtain ⟨c5, hc5⟩ : ∃ c, c4 ++ (encN (m.funcs.length : Int)) = c := ⟨_, rfl⟩
          have HW5 : Hid (Wrote w c5 W5) := by
            have := (unhide HW4).nums hw hf
            show Wrote w c5 W5
            rw [← hc5]
            simpa using this
          have HL5 : Hid (c5.length + (m.funcs.flatMap encF).length + (encN (sumL (encM m))).length ≤ 150000) := by
            have := unhide HL4
            show c5.length + (m.funcs.flatMap encF).length + (encN (sumL (encM m))).length ≤ 150000
            rw [← hc5]
            simp only [List.length_append] at this ⊢
            omega
          have HC5 := hide hc5
          clear hw hf hc5
          have d3 := (unhide HW5).cell (unhide HM0)
          go_wp2_with fail
          clear d3
          go_loopg [140] m.funcs.length (fun gg i wr => ∃ (k : Nat), k ≤ m.funcs.length ∧ gg = m.funcs.length - k ∧ i = .int .i64 k ∧ Hid (Wrote w (c5 ++ (m.funcs.take k).flatMap encF) wr))
          case atStart => exact ⟨0, Nat.zero_le _, rfl, rfl, (unhide HW5).eq (by simp)⟩
          case round =>
            rename World => W6
            obtain ⟨k140, hk, rfl, rfl, HY⟩ := hrel
            by_cases hlk : k140 < m.funcs.length
            · obtain ⟨x140, hx⟩ : ∃ x, m.funcs[k140]? = some x := ⟨_, List.getElem?_eq_getElem hlk⟩
              have HX140 := hide hx
              have hk2 : (k140 : Int) < (m.funcs.length : Int) := by omega
              obtain ⟨c6, hc6⟩ : ∃ c, c5 ++ (m.funcs.take k140).flatMap encF = c := ⟨_, rfl⟩
              have HW6 : Hid (Wrote w c6 W6) := (unhide HY).eq hc6
              have HR : Hid (c6.length + (encF x140).length ≤ 150000) := by
                have h1 := flat_len hx encF c5
                have h2 := unhide HL5
                show _ ≤ 150000
                rw [← hc6]
                simp only [List.length_append] at h1 h2 ⊢
                omega
              have HC6 := hide hc6
              clear hx hc6 HY
              obtain ⟨fb, fo, rfl, hfn⟩ := FnAt.of_rows (unhide HRF) hlk ((unhide HRRF) _ _ (unhide HX140))
              obtain ⟨E0, E1, E2, ⟨ga, capa, E3, _, ra⟩, ⟨gh, caph, E4, _, rh⟩, ⟨gv, capv, E5, _, rv⟩⟩ := hfn.fn
              have l0 := (unhide HW6).cell hfn.c0
              have l1 := (unhide HW6).cell hfn.c1
              have l2 := (unhide HW6).cell hfn.c2
              have l3 := (unhide HW6).cell hfn.c3
              have l4 := (unhide HW6).cell hfn.c4
              have l5 := (unhide HW6).cell hfn.c5
              rw [E3] at l3
              rw [E4] at l4
              rw [E5] at l5
              have HRA := hide ra
              have HRH := hide rh
              have HRV := hide rv
              obtain ⟨okA, okB, okX, okY, okZ⟩ : okF x140 := (unhide HOK).2.2 x140 (List.mem_of_getElem? (unhide HX140))
              have HOA := hide okA
              have HOB := hide okB
              have HOX := hide okX
              have HOY := hide okY
              have HOZ := hide okZ
              have la : x140.code.length ≤ 150000 := by have := flat_ge x140.code encI encI_pos; have := unhide HR; simp only [encF, encL, List.length_append] at this; omega
              have lh : x140.hands.length ≤ 150000 := by have := flat_ge x140.hands encH encH_pos; have := unhide HR; simp only [encF, encL, List.length_append] at this; omega
              have lv : x140.vars.length ≤ 150000 := by have := flat_ge x140.vars encV encV_pos; have := unhide HR; simp only [encF, encL, List.length_append] at this; omega
              clear hfn E0 E1 E2 E3 E4 E5 ra rh rv okA okB okX okY okZ
              obtain ⟨W7, hW7⟩ : ∃ W', W6.alloc (.cells #[.string x140.name, .int .i64 x140.params, .int .i64 x140.slots, .slice ga x140.code.length capa, .slice gh x140.hands.length caph, .slice gv x140.vars.length capv] 73) = W' := ⟨_, rfl⟩
              obtain ⟨pb, hpb⟩ : ∃ cb, W6.heap.size = cb := ⟨_, rfl⟩
              have KF7 : Hid (W7.heap[pb]? = some (.cells #[.string x140.name, .int .i64 x140.params, .int .i64 x140.slots, .slice ga x140.code.length capa, .slice gh x140.hands.length caph, .slice gv x140.vars.length capv] 73 (0, 0))) := by rw [← hW7, ← hpb]; exact hnew _ _
              have HQpb := hide (show pb ≠ w.heap.size + 1 by have := (unhide HW6).qlt; omega)
              have HW7 : Hid (Wrote w c6 W7) := by rw [← hW7]; exact (unhide HW6).alloc _
              have HL6 : Hid (c6.length + (encT x140.name).length + (encN x140.params).length + (encN x140.slots).length + (encN x140.code.length).length + (x140.code.flatMap encI).length + (encN x140.hands.length).length + (x140.hands.flatMap encH).length + (encN x140.vars.length).length + (x140.vars.flatMap encV).length ≤ 150000) := by
                have := unhide HR
                show c6.length + (encT x140.name).length + (encN x140.params).length + (encN x140.slots).length + (encN x140.code.length).length + (x140.code.flatMap encI).length + (encN x140.hands.length).length + (x140.hands.flatMap encH).length + (encN x140.vars.length).length + (x140.vars.flatMap encV).length ≤ 150000
                rw [encF, encL, encL, encL] at this
                simp only [List.length_append] at this ⊢
                omega
              clear HR
              have pKF0 : W7.cell? ⟨pb, 0, none⟩ = some (.string x140.name) := hcell (unhide KF7) 0
              have pKF1 : W7.cell? ⟨pb, 1, none⟩ = some (.int .i64 x140.params) := hcell (unhide KF7) 1
              have pKF2 : W7.cell? ⟨pb, 2, none⟩ = some (.int .i64 x140.slots) := hcell (unhide KF7) 2
              have pKF3 : W7.cell? ⟨pb, 3, none⟩ = some (.slice ga x140.code.length capa) := hcell (unhide KF7) 3
              have pKF4 : W7.cell? ⟨pb, 4, none⟩ = some (.slice gh x140.hands.length caph) := hcell (unhide KF7) 4
              have pKF5 : W7.cell? ⟨pb, 5, none⟩ = some (.slice gv x140.vars.length capv) := hcell (unhide KF7) 5
              go_wp2_with fail
              clear l0 l1 l2 l3 l4 l5 hW7
              clear pKF0 pKF1 pKF2 pKF3 pKF4 pKF5
              refine (wtext_any (unhide HW7).1 x140.name (by have := unhide HL6; simp; omega)).mono ?_
              rintro e W8 ⟨rfl, hw, hf⟩
              obtain ⟨c7, hc7⟩ : ∃ c, c6 ++ (encT x140.name) = c := ⟨_, rfl⟩
              have HW8 : Hid (Wrote w c7 W8) := by
                have := (unhide HW7).texts hw hf
                show Wrote w c7 W8
                rw [← hc7]
                simpa using this
              have HL7 : Hid (c7.length + (encN x140.params).length + (encN x140.slots).length + (encN x140.code.length).length + (x140.code.flatMap encI).length + (encN x140.hands.length).length + (x140.hands.flatMap encH).length + (encN x140.vars.length).length + (x140.vars.flatMap encV).length ≤ 150000) := by
                have := unhide HL6
                show c7.length + (encN x140.params).length + (encN x140.slots).length + (encN x140.code.length).length + (x140.code.flatMap encI).length + (encN x140.hands.length).length + (x140.hands.flatMap encH).length + (encN x140.vars.length).length + (x140.vars.flatMap encV).length ≤ 150000
                rw [← hc7]
                simp only [List.length_append] at this ⊢
                omega
              have HC7 := hide hc7
              have KF8 := hide (hf.keep _ _ _ _ (unhide KF7) (by decide) (unhide HQpb))
              clear hw hf hc7
              have pKF1 : W8.cell? ⟨pb, 1, none⟩ = some (.int .i64 x140.params) := hcell (unhide KF8) 1
              have pKF2 : W8.cell? ⟨pb, 2, none⟩ = some (.int .i64 x140.slots) := hcell (unhide KF8) 2
              have pKF3 : W8.cell? ⟨pb, 3, none⟩ = some (.slice ga x140.code.length capa) := hcell (unhide KF8) 3
              go_wp2_with fail
              clear pKF1 pKF2 pKF3
              refine (num_any (nb := W8.heap.size) ((unhide HW8).1.alloc (.cells #[.int .i64 x140.params, .int .i64 x140.slots, .int .i64 (x140.code.length : Int)] 3)) [x140.params, x140.slots, (x140.code.length : Int)] (i64s3 (unhide HOA) (unhide HOB) (i64Nat (by omega))) (by have := unhide HL7; simp; omega) (by simp) (by simp) (hnew _ _) (by have := (unhide HW8).qlt; omega) 3).mono ?_
              rintro e W9 ⟨rfl, hw, hf⟩
              obtain ⟨c8, hc8⟩ : ∃ c, c7 ++ (encN x140.params ++ (encN x140.slots ++ (encN (x140.code.length : Int)))) = c := ⟨_, rfl⟩
              have HW9 : Hid (Wrote w c8 W9) := by
                have := (unhide HW8).nums hw hf
                show Wrote w c8 W9
                rw [← hc8]
                simpa using this
              have HL8 : Hid (c8.length + (x140.code.flatMap encI).length + (encN x140.hands.length).length + (x140.hands.flatMap encH).length + (encN x140.vars.length).length + (x140.vars.flatMap encV).length ≤ 150000) := by
                have := unhide HL7
                show c8.length + (x140.code.flatMap encI).length + (encN x140.hands.length).length + (x140.hands.flatMap encH).length + (encN x140.vars.length).length + (x140.vars.flatMap encV).length ≤ 150000
                rw [← hc8]
                simp only [List.length_append] at this ⊢
                omega
              have HC8 := hide hc8
              have KF9 := hide (hf.keep _ _ _ _ ((Below.heap_alloc _ _ _ (hlt (unhide KF8))).trans (unhide KF8)) (by decide) (unhide HQpb))
              clear hw hf hc8
              have pKF3 : W9.cell? ⟨pb, 3, none⟩ = some (.slice ga x140.code.length capa) := hcell (unhide KF9) 3
              go_wp2_with fail
              clear pKF3
              go_loopg [161] x140.code.length (fun gg i wr => ∃ (k : Nat), k ≤ x140.code.length ∧ gg = x140.code.length - k ∧ i = .int .i64 k ∧ Hid (Wrote w (c8 ++ (x140.code.take k).flatMap encI) wr) ∧ Hid (wr.heap[pb]? = some (.cells #[.string x140.name, .int .i64 x140.params, .int .i64 x140.slots, .slice ga x140.code.length capa, .slice gh x140.hands.length caph, .slice gv x140.vars.length capv] 73 (0, 0))))
              case atStart => exact ⟨0, Nat.zero_le _, rfl, rfl, (unhide HW9).eq (by simp), unhide KF9⟩
              case round =>
                rename World => W10
                obtain ⟨k161, hk, rfl, rfl, HY, KF10⟩ := hrel
                by_cases hlk : k161 < x140.code.length
                · obtain ⟨x161, hx⟩ : ∃ x, x140.code[k161]? = some x := ⟨_, List.getElem?_eq_getElem hlk⟩
                  have HX161 := hide hx
                  have hk2 : (k161 : Int) < (x140.code.length : Int) := by omega
                  obtain ⟨c9, hc9⟩ : ∃ c, c8 ++ (x140.code.take k161).flatMap encI = c := ⟨_, rfl⟩
                  have HW10 : Hid (Wrote w c9 W10) := (unhide HY).eq hc9
                  have HR : Hid (c9.length + (encI x161).length ≤ 150000) := by
                    have h1 := flat_len hx encI c8
                    have h2 := unhide HL8
                    show _ ≤ 150000
                    rw [← hc9]
                    simp only [List.length_append] at h1 h2 ⊢
                    omega
                  have HC9 := hide hc9
                  clear hx hc9 HY
                  obtain ⟨sb, so, rfl, j0, j1, j2⟩ := InstrsAt.row (unhide HRA) (unhide HX161) hlk
                  have l0 := (unhide HW10).cell j0
                  have l1 := (unhide HW10).cell j1
                  have l2 := (unhide HW10).cell j2
                  obtain ⟨o0, o1, o2⟩ := (unhide HOX) x161 (List.mem_of_getElem? (unhide HX161))
                  have HO0 := hide o0
                  have HO1 := hide o1
                  have HO2 := hide o2
                  clear j0 j1 j2 o0 o1 o2
                  obtain ⟨W11, hW11⟩ : ∃ W', W10.alloc (.cells #[.int .i64 x161.op, .int .i64 x161.a, .int .i64 x161.b] 80) = W' := ⟨_, rfl⟩
                  obtain ⟨ib, hib⟩ : ∃ cb, W10.heap.size = cb := ⟨_, rfl⟩
                  have KI11 : Hid (W11.heap[ib]? = some (.cells #[.int .i64 x161.op, .int .i64 x161.a, .int .i64 x161.b] 80 (0, 0))) := by rw [← hW11, ← hib]; exact hnew _ _
                  have HQib := hide (show ib ≠ w.heap.size + 1 by have := (unhide HW10).qlt; omega)
                  have HW11 : Hid (Wrote w c9 W11) := by rw [← hW11]; exact (unhide HW10).alloc _
                  have KF11 := hide (alloc_keep hW11 (unhide KF10))
                  have HL9 : Hid (c9.length + (encN x161.op).length + (encN x161.a).length + (encN x161.b).length ≤ 150000) := by
                    have := unhide HR
                    show c9.length + (encN x161.op).length + (encN x161.a).length + (encN x161.b).length ≤ 150000
                    rw [encI] at this
                    simp only [List.length_append] at this ⊢
                    omega
                  clear HR
                  have pKI0 : W11.cell? ⟨ib, 0, none⟩ = some (.int .i64 x161.op) := hcell (unhide KI11) 0
                  have pKI1 : W11.cell? ⟨ib, 1, none⟩ = some (.int .i64 x161.a) := hcell (unhide KI11) 1
                  have pKI2 : W11.cell? ⟨ib, 2, none⟩ = some (.int .i64 x161.b) := hcell (unhide KI11) 2
                  go_wp2_with fail
                  clear l0 l1 l2 hW11
                  clear pKI0 pKI1 pKI2
                  refine (num_any (nb := W11.heap.size) ((unhide HW11).1.alloc (.cells #[.int .i64 x161.op, .int .i64 x161.a, .int .i64 x161.b] 3)) [x161.op, x161.a, x161.b] (i64s3 (unhide HO0) (unhide HO1) (unhide HO2)) (by have := unhide HL9; simp; omega) (by simp) (by simp) (hnew _ _) (by have := (unhide HW11).qlt; omega) 3).mono ?_
                  rintro e W12 ⟨rfl, hw, hf⟩
                  obtain ⟨c10, hc10⟩ : ∃ c, c9 ++ (encN x161.op ++ (encN x161.a ++ (encN x161.b))) = c := ⟨_, rfl⟩
                  have HW12 : Hid (Wrote w c10 W12) := by
                    have := (unhide HW11).nums hw hf
                    show Wrote w c10 W12
                    rw [← hc10]
                    simpa using this
                  have HL10 : Hid (c10.length ≤ 150000) := by
                    have := unhide HL9
                    show c10.length ≤ 150000
                    rw [← hc10]
                    simp only [List.length_append] at this ⊢
                    omega
                  have HC10 := hide hc10
                  have KF12 := hide (hf.keep _ _ _ _ ((Below.heap_alloc _ _ _ (hlt (unhide KF11))).trans (unhide KF11)) (by decide) (unhide HQpb))
                  have KI12 := hide (hf.keep _ _ _ _ ((Below.heap_alloc _ _ _ (hlt (unhide KI11))).trans (unhide KI11)) (by decide) (unhide HQib))
                  clear hw hf hc10
                  go_wp2_with fail
                  go_roundg (x140.code.length - (k161 + 1))
                  case measure => omega
                  case rel =>
                    refine ⟨k161 + 1, by omega, rfl, by go_num, (unhide HW12).eq ?_, unhide KF12⟩
                    rw [flat_take (unhide HX161), ← unhide HC10, ← unhide HC9]
                    simp [encI]
                · obtain rfl : k161 = x140.code.length := by omega
                  have hk2 : ¬ ((x140.code.length : Nat) : Int) < (x140.code.length : Int) := by omega
                  obtain ⟨c9, hc9⟩ : ∃ c, c8 ++ x140.code.flatMap encI = c := ⟨_, rfl⟩
                  have HW10 : Hid (Wrote w c9 W10) := (unhide HY).eq (by rw [← hc9, List.take_length])
                  have HL9 : Hid (c9.length + (encN x140.hands.length).length + (x140.hands.flatMap encH).length + (encN x140.vars.length).length + (x140.vars.flatMap encV).length ≤ 150000) := by
                    have := unhide HL8
                    show c9.length + (encN x140.hands.length).length + (x140.hands.flatMap encH).length + (encN x140.vars.length).length + (x140.vars.flatMap encV).length ≤ 150000
                    rw [← hc9]
                    simp only [List.length_append] at this ⊢
                    omega
                  have HC9 := hide hc9
                  clear hc9 HY hlk hk
                  have pKF4 : W10.cell? ⟨pb, 4, none⟩ = some (.slice gh x140.hands.length caph) := hcell (unhide KF10) 4
                  go_wp2_with fail
                  clear pKF4
                  refine (num_any (nb := W10.heap.size) ((unhide HW10).1.alloc (.cells #[.int .i64 (x140.hands.length : Int)] 3)) [(x140.hands.length : Int)] (i64s1 (i64Nat (by omega))) (by have := unhide HL9; simp; omega) (by simp) (by simp) (hnew _ _) (by have := (unhide HW10).qlt; omega) 1).mono ?_
                  rintro e W11 ⟨rfl, hw, hf⟩
                  obtain ⟨c10, hc10⟩ : ∃ c, c9 ++ (encN (x140.hands.length : Int)) = c := ⟨_, rfl⟩
                  have HW11 : Hid (Wrote w c10 W11) := by
                    have := (unhide HW10).nums hw hf
                    show Wrote w c10 W11
                    rw [← hc10]
                    simpa using this
                  have HL10 : Hid (c10.length + (x140.hands.flatMap encH).length + (encN x140.vars.length).length + (x140.vars.flatMap encV).length ≤ 150000) := by
                    have := unhide HL9
                    show c10.length + (x140.hands.flatMap encH).length + (encN x140.vars.length).length + (x140.vars.flatMap encV).length ≤ 150000
                    rw [← hc10]
                    simp only [List.length_append] at this ⊢
                    omega
                  have HC10 := hide hc10
                  have KF11 := hide (hf.keep _ _ _ _ ((Below.heap_alloc _ _ _ (hlt (unhide KF10))).trans (unhide KF10)) (by decide) (unhide HQpb))
                  clear hw hf hc10
                  have pKF4 : W11.cell? ⟨pb, 4, none⟩ = some (.slice gh x140.hands.length caph) := hcell (unhide KF11) 4
                  go_wp2_with fail
                  clear pKF4
                  go_loopg [184] x140.hands.length (fun gg i wr => ∃ (k : Nat), k ≤ x140.hands.length ∧ gg = x140.hands.length - k ∧ i = .int .i64 k ∧ Hid (Wrote w (c10 ++ (x140.hands.take k).flatMap encH) wr) ∧ Hid (wr.heap[pb]? = some (.cells #[.string x140.name, .int .i64 x140.params, .int .i64 x140.slots, .slice ga x140.code.length capa, .slice gh x140.hands.length caph, .slice gv x140.vars.length capv] 73 (0, 0))))
                  case atStart => exact ⟨0, Nat.zero_le _, rfl, rfl, (unhide HW11).eq (by simp), unhide KF11⟩
                  case round =>
                    rename World => W12
                    obtain ⟨k184, hk, rfl, rfl, HY, KF12⟩ := hrel
                    by_cases hlk : k184 < x140.hands.length
                    · obtain ⟨x184, hx⟩ : ∃ x, x140.hands[k184]? = some x := ⟨_, List.getElem?_eq_getElem hlk⟩
                      have HX184 := hide hx
                      have hk2 : (k184 : Int) < (x140.hands.length : Int) := by omega
                      obtain ⟨c11, hc11⟩ : ∃ c, c10 ++ (x140.hands.take k184).flatMap encH = c := ⟨_, rfl⟩
                      have HW12 : Hid (Wrote w c11 W12) := (unhide HY).eq hc11
                      have HR : Hid (c11.length + (encH x184).length ≤ 150000) := by
                        have h1 := flat_len hx encH c10
                        have h2 := unhide HL10
                        show _ ≤ 150000
                        rw [← hc11]
                        simp only [List.length_append] at h1 h2 ⊢
                        omega
                      have HC11 := hide hc11
                      clear hx hc11 HY
                      obtain ⟨sb, so, rfl, j0, j1, j2⟩ := HandsAt.at (unhide HRH) (unhide HX184) hlk
                      have l0 := (unhide HW12).cell j0
                      have l1 := (unhide HW12).cell j1
                      have l2 := (unhide HW12).cell j2
                      obtain ⟨o0, o1, o2⟩ := (unhide HOY) x184 (List.mem_of_getElem? (unhide HX184))
                      have HO0 := hide o0
                      have HO1 := hide o1
                      have HO2 := hide o2
                      clear j0 j1 j2 o0 o1 o2
                      obtain ⟨W13, hW13⟩ : ∃ W', W12.alloc (.cells #[.int .i64 x184.fr, .int .i64 x184.to, .int .i64 x184.tg] 83) = W' := ⟨_, rfl⟩
                      obtain ⟨hb, hhb⟩ : ∃ cb, W12.heap.size = cb := ⟨_, rfl⟩
                      have KH13 : Hid (W13.heap[hb]? = some (.cells #[.int .i64 x184.fr, .int .i64 x184.to, .int .i64 x184.tg] 83 (0, 0))) := by rw [← hW13, ← hhb]; exact hnew _ _
                      have HQhb := hide (show hb ≠ w.heap.size + 1 by have := (unhide HW12).qlt; omega)
                      have HW13 : Hid (Wrote w c11 W13) := by rw [← hW13]; exact (unhide HW12).alloc _
                      have KF13 := hide (alloc_keep hW13 (unhide KF12))
                      have HL11 : Hid (c11.length + (encN x184.fr).length + (encN x184.to).length + (encN x184.tg).length ≤ 150000) := by
                        have := unhide HR
                        show c11.length + (encN x184.fr).length + (encN x184.to).length + (encN x184.tg).length ≤ 150000
                        rw [encH] at this
                        simp only [List.length_append] at this ⊢
                        omega
                      clear HR
                      have pKH0 : W13.cell? ⟨hb, 0, none⟩ = some (.int .i64 x184.fr) := hcell (unhide KH13) 0
                      have pKH1 : W13.cell? ⟨hb, 1, none⟩ = some (.int .i64 x184.to) := hcell (unhide KH13) 1
                      have pKH2 : W13.cell? ⟨hb, 2, none⟩ = some (.int .i64 x184.tg) := hcell (unhide KH13) 2
                      go_wp2_with fail
                      clear l0 l1 l2 hW13
                      clear pKH0 pKH1 pKH2
                      refine (num_any (nb := W13.heap.size) ((unhide HW13).1.alloc (.cells #[.int .i64 x184.fr, .int .i64 x184.to, .int .i64 x184.tg] 3)) [x184.fr, x184.to, x184.tg] (i64s3 (unhide HO0) (unhide HO1) (unhide HO2)) (by have := unhide HL11; simp; omega) (by simp) (by simp) (hnew _ _) (by have := (unhide HW13).qlt; omega) 3).mono ?_
                      rintro e W14 ⟨rfl, hw, hf⟩
                      obtain ⟨c12, hc12⟩ : ∃ c, c11 ++ (encN x184.fr ++ (encN x184.to ++ (encN x184.tg))) = c := ⟨_, rfl⟩
                      have HW14 : Hid (Wrote w c12 W14) := by
                        have := (unhide HW13).nums hw hf
                        show Wrote w c12 W14
                        rw [← hc12]
                        simpa using this
                      have HL12 : Hid (c12.length ≤ 150000) := by
                        have := unhide HL11
                        show c12.length ≤ 150000
                        rw [← hc12]
                        simp only [List.length_append] at this ⊢
                        omega
                      have HC12 := hide hc12
                      have KF14 := hide (hf.keep _ _ _ _ ((Below.heap_alloc _ _ _ (hlt (unhide KF13))).trans (unhide KF13)) (by decide) (unhide HQpb))
                      have KH14 := hide (hf.keep _ _ _ _ ((Below.heap_alloc _ _ _ (hlt (unhide KH13))).trans (unhide KH13)) (by decide) (unhide HQhb))
                      clear hw hf hc12
                      go_wp2_with fail
                      go_roundg (x140.hands.length - (k184 + 1))
                      case measure => omega
                      case rel =>
                        refine ⟨k184 + 1, by omega, rfl, by go_num, (unhide HW14).eq ?_, unhide KF14⟩
                        rw [flat_take (unhide HX184), ← unhide HC12, ← unhide HC11]
                        simp [encH]
                    · obtain rfl : k184 = x140.hands.length := by omega
                      have hk2 : ¬ ((x140.hands.length : Nat) : Int) < (x140.hands.length : Int) := by omega
                      obtain ⟨c11, hc11⟩ : ∃ c, c10 ++ x140.hands.flatMap encH = c := ⟨_, rfl⟩
                      have HW12 : Hid (Wrote w c11 W12) := (unhide HY).eq (by rw [← hc11, List.take_length])
                      have HL11 : Hid (c11.length + (encN x140.vars.length).length + (x140.vars.flatMap encV).length ≤ 150000) := by
                        have := unhide HL10
                        show c11.length + (encN x140.vars.length).length + (x140.vars.flatMap encV).length ≤ 150000
                        rw [← hc11]
                        simp only [List.length_append] at this ⊢
                        omega
                      have HC11 := hide hc11
                      clear hc11 HY hlk hk
                      have pKF5 : W12.cell? ⟨pb, 5, none⟩ = some (.slice gv x140.vars.length capv) := hcell (unhide KF12) 5
                      go_wp2_with fail
                      clear pKF5
                      refine (num_any (nb := W12.heap.size) ((unhide HW12).1.alloc (.cells #[.int .i64 (x140.vars.length : Int)] 3)) [(x140.vars.length : Int)] (i64s1 (i64Nat (by omega))) (by have := unhide HL11; simp; omega) (by simp) (by simp) (hnew _ _) (by have := (unhide HW12).qlt; omega) 1).mono ?_
                      rintro e W13 ⟨rfl, hw, hf⟩
                      obtain ⟨c12, hc12⟩ : ∃ c, c11 ++ (encN (x140.vars.length : Int)) = c := ⟨_, rfl⟩
                      have HW13 : Hid (Wrote w c12 W13) := by
                        have := (unhide HW12).nums hw hf
                        show Wrote w c12 W13
                        rw [← hc12]
                        simpa using this
                      have HL12 : Hid (c12.length + (x140.vars.flatMap encV).length ≤ 150000) := by
                        have := unhide HL11
                        show c12.length + (x140.vars.flatMap encV).length ≤ 150000
                        rw [← hc12]
                        simp only [List.length_append] at this ⊢
                        omega
                      have HC12 := hide hc12
                      have KF13 := hide (hf.keep _ _ _ _ ((Below.heap_alloc _ _ _ (hlt (unhide KF12))).trans (unhide KF12)) (by decide) (unhide HQpb))
                      clear hw hf hc12
                      have pKF5 : W13.cell? ⟨pb, 5, none⟩ = some (.slice gv x140.vars.length capv) := hcell (unhide KF13) 5
                      go_wp2_with fail
                      clear pKF5
                      go_loopg [207] x140.vars.length (fun gg i wr => ∃ (k : Nat), k ≤ x140.vars.length ∧ gg = x140.vars.length - k ∧ i = .int .i64 k ∧ Hid (Wrote w (c12 ++ (x140.vars.take k).flatMap encV) wr) ∧ Hid (wr.heap[pb]? = some (.cells #[.string x140.name, .int .i64 x140.params, .int .i64 x140.slots, .slice ga x140.code.length capa, .slice gh x140.hands.length caph, .slice gv x140.vars.length capv] 73 (0, 0))))
                      case atStart => exact ⟨0, Nat.zero_le _, rfl, rfl, (unhide HW13).eq (by simp), unhide KF13⟩
                      case round =>
                        rename World => W14
                        obtain ⟨k207, hk, rfl, rfl, HY, KF14⟩ := hrel
                        by_cases hlk : k207 < x140.vars.length
                        · obtain ⟨x207, hx⟩ : ∃ x, x140.vars[k207]? = some x := ⟨_, List.getElem?_eq_getElem hlk⟩
                          have HX207 := hide hx
                          have hk2 : (k207 : Int) < (x140.vars.length : Int) := by omega
                          obtain ⟨c13, hc13⟩ : ∃ c, c12 ++ (x140.vars.take k207).flatMap encV = c := ⟨_, rfl⟩
                          have HW14 : Hid (Wrote w c13 W14) := (unhide HY).eq hc13
                          have HR : Hid (c13.length + (encV x207).length ≤ 150000) := by
                            have h1 := flat_len hx encV c12
                            have h2 := unhide HL12
                            show _ ≤ 150000
                            rw [← hc13]
                            simp only [List.length_append] at h1 h2 ⊢
                            omega
                          have HC13 := hide hc13
                          clear hx hc13 HY
                          obtain ⟨sb, so, rfl, j0, j1, j2, j3, j4⟩ := VarsAt.at (unhide HRV) (unhide HX207) hlk
                          have l0 := (unhide HW14).cell j0
                          have l1 := (unhide HW14).cell j1
                          have l2 := (unhide HW14).cell j2
                          have l3 := (unhide HW14).cell j3
                          have l4 := (unhide HW14).cell j4
                          obtain ⟨o0, o1, o2⟩ := (unhide HOZ) x207 (List.mem_of_getElem? (unhide HX207))
                          have HO0 := hide o0
                          have HO1 := hide o1
                          have HO2 := hide o2
                          obtain ⟨bx, hbx⟩ : ∃ bx, x207.boxed = bx := ⟨_, rfl⟩
                          rw [hbx] at l4
                          have HBX := hide hbx
                          clear j0 j1 j2 j3 j4 o0 o1 o2 hbx
                          obtain ⟨W15, hW15⟩ : ∃ W', W14.alloc (.cells #[.string x207.name, .int .i64 x207.slot, .int .i64 x207.fr, .int .i64 x207.to, .bool bx] 86) = W' := ⟨_, rfl⟩
                          obtain ⟨ub, hub⟩ : ∃ cb, W14.heap.size = cb := ⟨_, rfl⟩
                          have KW15 : Hid (W15.heap[ub]? = some (.cells #[.string x207.name, .int .i64 x207.slot, .int .i64 x207.fr, .int .i64 x207.to, .bool bx] 86 (0, 0))) := by rw [← hW15, ← hub]; exact hnew _ _
                          have HQub := hide (show ub ≠ w.heap.size + 1 by have := (unhide HW14).qlt; omega)
                          have HW15 : Hid (Wrote w c13 W15) := by rw [← hW15]; exact (unhide HW14).alloc _
                          have KF15 := hide (alloc_keep hW15 (unhide KF14))
                          have HL13 : Hid (c13.length + (encT x207.name).length + (encN x207.slot).length + (encN x207.fr).length + (encN x207.to).length + (encN (if bx then 1 else 0)).length ≤ 150000) := by
                            have := unhide HR
                            show _ ≤ 150000
                            rw [encV, encB, unhide HBX] at this
                            simp only [List.length_append] at this ⊢
                            omega
                          clear HR
                          have pKW0 : W15.cell? ⟨ub, 0, none⟩ = some (.string x207.name) := hcell (unhide KW15) 0
                          have pKW1 : W15.cell? ⟨ub, 1, none⟩ = some (.int .i64 x207.slot) := hcell (unhide KW15) 1
                          have pKW2 : W15.cell? ⟨ub, 2, none⟩ = some (.int .i64 x207.fr) := hcell (unhide KW15) 2
                          have pKW3 : W15.cell? ⟨ub, 3, none⟩ = some (.int .i64 x207.to) := hcell (unhide KW15) 3
                          have pKW4 : W15.cell? ⟨ub, 4, none⟩ = some (.bool bx) := hcell (unhide KW15) 4
                          go_wp2_with fail
                          clear l0 l1 l2 l3 l4 hW15
                          clear pKW0 pKW1 pKW2 pKW3 pKW4
                          refine (wtext_any (unhide HW15).1 x207.name (by have := unhide HL13; simp; omega)).mono ?_
                          rintro e W16 ⟨rfl, hw, hf⟩
                          obtain ⟨c14, hc14⟩ : ∃ c, c13 ++ (encT x207.name) = c := ⟨_, rfl⟩
                          have HW16 : Hid (Wrote w c14 W16) := by
                            have := (unhide HW15).texts hw hf
                            show Wrote w c14 W16
                            rw [← hc14]
                            simpa using this
                          have HL14 : Hid (c14.length + (encN x207.slot).length + (encN x207.fr).length + (encN x207.to).length + (encN (if bx then 1 else 0)).length ≤ 150000) := by
                            have := unhide HL13
                            show c14.length + (encN x207.slot).length + (encN x207.fr).length + (encN x207.to).length + (encN (if bx then 1 else 0)).length ≤ 150000
                            rw [← hc14]
                            simp only [List.length_append] at this ⊢
                            omega
                          have HC14 := hide hc14
                          have KF16 := hide (hf.keep _ _ _ _ (unhide KF15) (by decide) (unhide HQpb))
                          have KW16 := hide (hf.keep _ _ _ _ (unhide KW15) (by decide) (unhide HQub))
                          clear hw hf hc14
                          cases bx with
                          | true =>
                            have HLn : Hid (c14.length + (encN x207.slot).length + (encN x207.fr).length + (encN x207.to).length + (encN 1).length ≤ 150000) := unhide HL14
                            clear HL14
                            have HL14 := HLn
                            clear HLn
                            have pKW1 : W16.cell? ⟨ub, 1, none⟩ = some (.int .i64 x207.slot) := hcell (unhide KW16) 1
                            have pKW2 : W16.cell? ⟨ub, 2, none⟩ = some (.int .i64 x207.fr) := hcell (unhide KW16) 2
                            have pKW3 : W16.cell? ⟨ub, 3, none⟩ = some (.int .i64 x207.to) := hcell (unhide KW16) 3
                            have pKW4 : W16.cell? ⟨ub, 4, none⟩ = some (.bool true) := hcell (unhide KW16) 4
                            go_wp2_with fail
                            clear pKW1 pKW2 pKW3 pKW4
                            refine (num_any (nb := W16.heap.size) ((unhide HW16).1.alloc (.cells #[.int .i64 x207.slot, .int .i64 x207.fr, .int .i64 x207.to, .int .i64 1] 3)) [x207.slot, x207.fr, x207.to, 1] (i64s4 (unhide HO0) (unhide HO1) (unhide HO2) i641) (by have := unhide HL14; simp; omega) (by simp) (by simp) (hnew _ _) (by have := (unhide HW16).qlt; omega) 4).mono ?_
                            rintro e W17 ⟨rfl, hw, hf⟩
                            obtain ⟨c15, hc15⟩ : ∃ c, c14 ++ (encN x207.slot ++ (encN x207.fr ++ (encN x207.to ++ (encN 1)))) = c := ⟨_, rfl⟩
                            have HW17 : Hid (Wrote w c15 W17) := by
                              have := (unhide HW16).nums hw hf
                              show Wrote w c15 W17
                              rw [← hc15]
                              simpa using this
                            have HL15 : Hid (c15.length ≤ 150000) := by
                              have := unhide HL14
                              show c15.length ≤ 150000
                              rw [← hc15]
                              simp only [List.length_append] at this ⊢
                              omega
                            have HC15 := hide hc15
                            have KF17 := hide (hf.keep _ _ _ _ ((Below.heap_alloc _ _ _ (hlt (unhide KF16))).trans (unhide KF16)) (by decide) (unhide HQpb))
                            have KW17 := hide (hf.keep _ _ _ _ ((Below.heap_alloc _ _ _ (hlt (unhide KW16))).trans (unhide KW16)) (by decide) (unhide HQub))
                            clear hw hf hc15
                            go_wp2_with fail
                            go_roundg (x140.vars.length - (k207 + 1))
                            case measure => omega
                            case rel =>
                              refine ⟨k207 + 1, by omega, rfl, by go_num, (unhide HW17).eq ?_, unhide KF17⟩
                              rw [flat_take (unhide HX207), ← unhide HC15, ← unhide HC14, ← unhide HC13]
                              simp [encV, encB, unhide HBX]
                          | false =>
                            have HLn : Hid (c14.length + (encN x207.slot).length + (encN x207.fr).length + (encN x207.to).length + (encN 0).length ≤ 150000) := unhide HL14
                            clear HL14
                            have HL14 := HLn
                            clear HLn
                            have pKW1 : W16.cell? ⟨ub, 1, none⟩ = some (.int .i64 x207.slot) := hcell (unhide KW16) 1
                            have pKW2 : W16.cell? ⟨ub, 2, none⟩ = some (.int .i64 x207.fr) := hcell (unhide KW16) 2
                            have pKW3 : W16.cell? ⟨ub, 3, none⟩ = some (.int .i64 x207.to) := hcell (unhide KW16) 3
                            have pKW4 : W16.cell? ⟨ub, 4, none⟩ = some (.bool false) := hcell (unhide KW16) 4
                            go_wp2_with fail
                            clear pKW1 pKW2 pKW3 pKW4
                            refine (num_any (nb := W16.heap.size) ((unhide HW16).1.alloc (.cells #[.int .i64 x207.slot, .int .i64 x207.fr, .int .i64 x207.to, .int .i64 0] 3)) [x207.slot, x207.fr, x207.to, 0] (i64s4 (unhide HO0) (unhide HO1) (unhide HO2) i640) (by have := unhide HL14; simp; omega) (by simp) (by simp) (hnew _ _) (by have := (unhide HW16).qlt; omega) 4).mono ?_
                            rintro e W17 ⟨rfl, hw, hf⟩
                            obtain ⟨c15, hc15⟩ : ∃ c, c14 ++ (encN x207.slot ++ (encN x207.fr ++ (encN x207.to ++ (encN 0)))) = c := ⟨_, rfl⟩
                            have HW17 : Hid (Wrote w c15 W17) := by
                              have := (unhide HW16).nums hw hf
                              show Wrote w c15 W17
                              rw [← hc15]
                              simpa using this
                            have HL15 : Hid (c15.length ≤ 150000) := by
                              have := unhide HL14
                              show c15.length ≤ 150000
                              rw [← hc15]
                              simp only [List.length_append] at this ⊢
                              omega
                            have HC15 := hide hc15
                            have KF17 := hide (hf.keep _ _ _ _ ((Below.heap_alloc _ _ _ (hlt (unhide KF16))).trans (unhide KF16)) (by decide) (unhide HQpb))
                            have KW17 := hide (hf.keep _ _ _ _ ((Below.heap_alloc _ _ _ (hlt (unhide KW16))).trans (unhide KW16)) (by decide) (unhide HQub))
                            clear hw hf hc15
                            go_wp2_with fail
                            go_roundg (x140.vars.length - (k207 + 1))
                            case measure => omega
                            case rel =>
                              refine ⟨k207 + 1, by omega, rfl, by go_num, (unhide HW17).eq ?_, unhide KF17⟩
                              rw [flat_take (unhide HX207), ← unhide HC15, ← unhide HC14, ← unhide HC13]
                              simp [encV, encB, unhide HBX]
                        · obtain rfl : k207 = x140.vars.length := by omega
                          have hk2 : ¬ ((x140.vars.length : Nat) : Int) < (x140.vars.length : Int) := by omega
                          obtain ⟨c13, hc13⟩ : ∃ c, c12 ++ x140.vars.flatMap encV = c := ⟨_, rfl⟩
                          have HW14 : Hid (Wrote w c13 W14) := (unhide HY).eq (by rw [← hc13, List.take_length])
                          have HL13 : Hid (c13.length ≤ 150000) := by
                            have := unhide HL12
                            show c13.length ≤ 150000
                            rw [← hc13]
                            simp only [List.length_append] at this ⊢
                            omega
                          have HC13 := hide hc13
                          clear hc13 HY hlk hk
                          go_wp2_with fail
                          go_roundg (m.funcs.length - (k140 + 1))
                          case measure => omega
                          case rel =>
                            refine ⟨k140 + 1, by omega, rfl, by go_num, (unhide HW14).eq ?_⟩
                            rw [flat_take (unhide HX140), ← unhide HC13, ← unhide HC12, ← unhide HC11, ← unhide HC10, ← unhide HC9, ← unhide HC8, ← unhide HC7, ← unhide HC6]
                            simp [encF, encL]
            · obtain rfl : k140 = m.funcs.length := by omega
              have hk2 : ¬ ((m.funcs.length : Nat) : Int) < (m.funcs.length : Int) := by omega
              obtain ⟨c6, hc6⟩ : ∃ c, c5 ++ m.funcs.flatMap encF = c := ⟨_, rfl⟩
              have HW6 : Hid (Wrote w c6 W6) := (unhide HY).eq (by rw [← hc6, List.take_length])
              have HL6 : Hid (c6.length + (encN (sumL (encM m))).length ≤ 150000) := by
                have := unhide HL5
                show c6.length + (encN (sumL (encM m))).length ≤ 150000
                rw [← hc6]
                simp only [List.length_append] at this ⊢
                omega
              have HC6 := hide hc6
              clear hc6 HY hlk hk
              have hall : c6 = encM m := by
                rw [← unhide HC6, ← unhide HC5, ← unhide HC4, ← unhide HC3, ← unhide HC2, ← unhide HC1', ← unhide HC0']
                simp [encM, encL]
              obtain ⟨v0, hq0, hrow0⟩ := (unhide HW6).1.blk
              have hown0 : W6.ownsRow w.heap.size 5 1 v0 c6.length (c6.map bv) := by
                rcases hrow0 with q | ⟨q, _⟩
                · exact q
                · cases q
              obtain ⟨g0, cap0, e0, r0⟩ := rows_of_owns hown0 (Flat.bytes c6)
              subst e0
              have cq0 : W6.cell? ⟨w.heap.size + 1, 0, none⟩ = some (.slice g0 c6.length cap0) := hcell hq0 0
              have HR0 := hide r0
              have HALL := hide hall
              have lc : c6.length ≤ 150000 := by have := unhide HL6; omega
              have HBC : Hid (∀ x ∈ c6, 0 ≤ x ∧ x < 256) := fun x hx => (unhide HBY) x (by rw [encImg, ← unhide HALL]; exact List.mem_append_left _ hx)
              clear hall hq0 hrow0 hown0 r0
              go_wp2_with fail
              go_loopg [21, 234] c6.length (fun gg s i wr => ∃ (k : Nat) (S : Int), k ≤ c6.length ∧ gg = c6.length - k ∧ i = .int .i64 k ∧ s = .int .i64 S ∧ 0 ≤ S ∧ S < 8191 ∧ Hid (S = sumL (c6.take k)) ∧ wr = W6)
              case atStart => exact ⟨0, 7, Nat.zero_le _, rfl, rfl, rfl, by omega, by omega, rfl, rfl⟩
              case round =>
                obtain ⟨k, S, hk, rfl, rfl, rfl, hS0, hS1, HS, hwr⟩ := hrel
                rename World => W7
                subst hwr
                by_cases hlk : k < c6.length
                · obtain ⟨rb, ro, rfl, hcc⟩ := (unhide HR0) k hlk
                  have hc0 := hcc 0 (by omega)
                  have hx := (unhide HBC) (c6.getD k 0) (by rw [show c6.getD k 0 = c6[k] by simp [List.getD, hlk]]; exact List.getElem_mem _)
                  have HT := hide (take_succ_get hlk)
                  rw [byteRow_get hlk] at hc0
                  simp only [Nat.mul_one, Nat.add_zero] at hc0
                  obtain ⟨x, hxe⟩ : ∃ x, c6.getD k 0 = x := ⟨_, rfl⟩
                  rw [hxe] at hc0 hx HT
                  clear hxe
                  have hk2 : (k : Int) < (c6.length : Int) := by omega
                  clear hcc cq0
                  unfold bv at hc0
                  go_wp2_with fail
                  go_roundg (c6.length - (k + 1))
                  case measure => omega
                  case rel =>
                    refine ⟨k + 1, (37 * S + x) % 8191, by omega, rfl, by go_num, ?_, by omega, by omega, ?_, rfl⟩
                    · rw [Int.mul_comm 37 S]
                    · show (37 * S + x) % 8191 = sumL (c6.take (k + 1))
                      rw [unhide HT, sumL_snoc, ← unhide HS]
                · have hk2 : ¬ (k : Int) < (c6.length : Int) := by omega
                  have HSS : Hid (S = sumL (encM m)) := by
                    have e := unhide HS
                    rw [List.take_of_length_le (by omega), unhide HALL] at e
                    exact e
                  clear cq0
                  go_wp2_with fail
                  have HLs : Hid (c6.length + (encN S).length ≤ 150000) := by
                    have := unhide HL6
                    rw [← unhide HSS] at this
                    exact this
                  refine (num_any (nb := W7.heap.size) ((unhide HW6).1.alloc (.cells #[.int .i64 S] 3)) [S] (i64s1 ⟨by omega, by omega⟩) (by have := unhide HLs; simp; omega) (by simp) (by simp) (hnew _ _) (by have := (unhide HW6).qlt; omega) 1).mono ?_
                  rintro e V ⟨rfl, hw, hf⟩
                  have HV : Hid (Wrote w (encImg m) V) := by
                    have := (unhide HW6).nums hw hf
                    rw [unhide HALL, unhide HSS] at this
                    show Wrote w (encImg m) V
                    simpa [encImg] using this
                  obtain ⟨v1, hq1, hrow1⟩ := (unhide HV).1.blk
                  have hown1 : V.ownsRow w.heap.size 5 1 v1 (encImg m).length ((encImg m).map bv) := by
                    rcases hrow1 with q | ⟨q, _⟩
                    · exact q
                    · cases q
                  obtain ⟨g1, cap1, e1⟩ := owns_form hown1
                  subst e1
                  have cq1 : V.cell? ⟨w.heap.size + 1, 0, none⟩ = some (.slice g1 (encImg m).length cap1) := hcell hq1 0
                  have HO1 := hide hown1
                  clear hw hf hq1 hrow1 hown1
                  go_wp2_with fail
                  go_ret
                  exact ⟨_, rfl, (unhide HV).2.toBelow, unhide HO1⟩
end Go.Proofs.YtkafldkhmkdafaaDoor
