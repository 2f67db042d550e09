/-
  Package code's writer: texts, truths, constants, instructions, handlers, variables.
  Package code's writer: lists of flat things.
-/
import Derived.Test.YtkafldkhmkdafaaGreatDoorM19
namespace Go.Proofs.YtkafldkhmkdafaaGreatDoor
open Go.RowKit

theorem hnew' (w : World) (o : Obj) {n : Nat} (hn : w.heap.size = n) : (w.alloc o).heap[n]? = some o := by
  rw [← hn]; exact hnew w o
theorem CwPost.eq {B q : Nat} {w w' : World} {a b : List Int} {e : Ending} (h : CwPost B q w a e w') (hab : a = b) : CwPost B q w b e w' := hab ▸ h
theorem Cw.lt {B q : Nat} {o : Bool} {w : World} {bs : List Int} (h : Cw B q o w bs) : q < w.heap.size := by
  obtain ⟨v, h1, _⟩ := h.blk
  exact hlt h1
theorem FrU.al {B q : Nat} {w : World} (hB : B ≤ w.heap.size) (o : Obj) : FrU B q w (w.alloc o) := FrU.of_below ((Below.refl _ _).alloc (Nat.le_refl _) o) hB

set_option maxRecDepth 100000 in
set_option maxHeartbeats 4000000 in
theorem ctext_any {B q : Nat} {o : Bool} {w : World} {bs : List Int} (h : Cw B q o w bs) (s : ByteArray) (hlen : (bs ++ encT s).length ≤ 20000000) :
    Calls Tryz.prog 32 #[.pointer (some ⟨q, 0, none⟩), .string s] w fun e w' => CwPost B q w (bs ++ encT s) e w' := by
  have H := hide h
  have hle := hlen
  rw [List.length_append, encT_length] at hle
  have HLE := hide hle
  obtain ⟨i0, hi, hz0, hz1, hz2⟩ := info_parts infoU8
  clear h hlen
  have hs63 : (s.size : Int) ≤ 9223372036854775807 := by omega
  clear hle
  go_enter Tryz.func32, Tryz.ntmps32
  go_wp2_with fail
  refine (cnum_any (unhide H) (n := (s.size : Int)) ⟨by omega, hs63⟩ (by have := unhide HLE; simp; omega)).mono ?_
  rintro e w1 ⟨rfl, hw1, hf1⟩
  have HF1 := hide hf1
  obtain ⟨v, hq, hrow⟩ := hw1.blk
  have hown : w1.ownsRow B 5 1 v (bs ++ encN s.size).length ((bs ++ encN s.size).map bv) := by
    rcases hrow with q | ⟨q, _⟩
    · simpa using q
    · cases q
  have HROW : Hid (RowB true w1 B v (bs ++ encN s.size)) := Or.inl hown
  have c0 : w1.cell? ⟨q, 0, none⟩ = some v := hcell hq 0
  have HQ := hide hq
  have HO := hide hown
  have HQB := hide hw1.qB
  have HSZ := hide hw1.sz
  clear hw1 hf1 hq hrow hown
  go_wp2_with (at_builtin; refine Go.Lib.wpList_append_own_string _ rfl _ _ _ _ rfl B 5 i0 Tryz.underlying39 Tryz.underlying9 hi hz0 hz1 hz2 _ (bs ++ encN s.size).length ((bs ++ encN s.size).map bv) rfl (unhide HO) s rfl ?c1 ?c2 (unhide HSZ) ?_)
  case c1 => have := unhide HLE; unfold maxLen; simp; omega
  case c2 => have := unhide HLE; simp; omega
  intro v' w3 hown3 hgrow _
  obtain ⟨p1, p2, p3⟩ := Cw.push (v' := v') (news := bytesL s) (unhide HQ) (unhide HROW) (unhide HQB) (unhide HSZ) (by rw [← strCells_bv, bytesL_length]; simpa using hown3) hgrow
  have z0 : w3.cell? ⟨q, 0, none⟩ = some v := hcell p1 0
  have y0 := hfroz p1 0
  have HP2 := hide p2
  have HP3 := hide ((unhide HF1).trans p3)
  obtain ⟨g', cap', hv'⟩ := owns_form hown3
  subst hv'
  clear hown3 hgrow p1 p2 p3
  go_wp2_with fail
  go_end0
  refine ⟨rfl, ?_, unhide HP3⟩
  have := unhide HP2
  rw [List.append_assoc] at this
  exact this

set_option maxRecDepth 100000 in
set_option maxHeartbeats 4000000 in
theorem ctruth_any {B q : Nat} {o : Bool} {w : World} {bs : List Int} (h : Cw B q o w bs) (b : Bool) (hlen : (bs ++ encB b).length ≤ 20000000) :
    Calls Tryz.prog 31 #[.pointer (some ⟨q, 0, none⟩), .bool b] w fun e w' => CwPost B q w (bs ++ encB b) e w' := by
  have H := hide h
  have HL := hide hlen
  clear h hlen
  cases b with
  | true =>
    go_enter Tryz.func31, Tryz.ntmps31
    go_wp2_with fail
    refine (cnum_any (unhide H) (n := 1) ⟨by decide, by decide⟩ (unhide HL)).mono ?_
    rintro e w1 ⟨rfl, hw1, hf1⟩
    have HP := hide hw1
    have HF := hide hf1
    clear hw1 hf1
    go_wp2_with fail
    go_end0
    exact ⟨rfl, unhide HP, unhide HF⟩
  | false =>
    go_enter Tryz.func31, Tryz.ntmps31
    go_wp2_with fail
    refine (cnum_any (unhide H) (n := 0) ⟨by decide, by decide⟩ (unhide HL)).mono ?_
    rintro e w1 ⟨rfl, hw1, hf1⟩
    have HP := hide hw1
    have HF := hide hf1
    clear hw1 hf1
    go_wp2_with fail
    go_end0
    exact ⟨rfl, unhide HP, unhide HF⟩

set_option maxRecDepth 100000 in
set_option maxHeartbeats 4000000 in
theorem cnums_any {B q : Nat} {o : Bool} {w : World} {bs : List Int} (h : Cw B q o w bs) (ns : List Int) (hin : ∀ n ∈ ns, I64 n) (hlen : (bs ++ ns.flatMap encN).length ≤ 20000000) (hnl : ns.length ≤ 10) (hne : 0 < ns.length) {nb : Nat} (hnb : w.heap[nb]? = some (.cells (ns.map iv).toArray 3 (0, 0))) (hnq : nb ≠ q) (cap : Nat) :
    Calls Tryz.prog 34 #[.pointer (some ⟨q, 0, none⟩), .slice (some ⟨nb, 0, none⟩) ns.length cap] w fun e w' => CwPost B q w (bs ++ ns.flatMap encN) e w' := by
  have H := hide h
  have HIN := hide hin
  have HLEN := hide hlen
  have HNB := hide hnb
  have HNQ := hide hnq
  clear h hin hlen hnb hnq
  go_enter Tryz.func34, Tryz.ntmps34
  go_wp2_with fail
  go_loopg [8] ns.length (fun gg i wr => ∃ (k : Nat), k ≤ ns.length ∧ gg = ns.length - k ∧ i = .int .i64 k ∧ Hid (Cw B q (o || decide (0 < k)) wr (bs ++ (ns.take k).flatMap encN) ∧ FrU B q w wr))
  case atStart => exact ⟨0, Nat.zero_le _, rfl, rfl, by simpa using unhide H, FrU.refl _ _ _⟩
  case round =>
    obtain ⟨k, hk, rfl, rfl, HY⟩ := hrel
    by_cases hlk : k < ns.length
    · have hk2 : (k : Int) < (ns.length : Int) := by omega
      obtain ⟨n, hn⟩ : ∃ n, ns[k]? = some n := ⟨ns[k], List.getElem?_eq_getElem hlk⟩
      have c0 : wr.cell? ⟨nb, k, none⟩ = some (.int .i64 n) := by
        rw [(unhide HY).2.cell (unhide HNB) (by decide) (unhide HNQ) k]
        simp [hn, iv]
      have HT : Hid (ns.take (k + 1) = ns.take k ++ [n]) := by
        show ns.take (k + 1) = ns.take k ++ [n]
        rw [List.take_add_one, hn]
        rfl
      have HI := hide ((unhide HIN) n (List.mem_of_getElem? hn))
      have HLN : Hid ((bs ++ (ns.take k).flatMap encN ++ encN n).length ≤ 20000000) := by
        have h1 := unhide HLEN
        have h2 : ns = ns.take (k + 1) ++ ns.drop (k + 1) := (List.take_append_drop _ _).symm
        rw [h2, unhide HT] at h1
        show (bs ++ (ns.take k).flatMap encN ++ encN n).length ≤ 20000000
        simp only [List.flatMap_append, List.length_append, List.flatMap_cons, List.flatMap_nil, List.append_nil] at h1 ⊢
        omega
      clear hn
      go_wp2_with fail
      refine (cnum_any (unhide HY).1 (unhide HI) (unhide HLN)).mono ?_
      rintro e w1 ⟨rfl, hw1, hf1⟩
      have HP := hide hw1
      have HF := hide ((unhide HY).2.trans hf1)
      clear hw1 hf1 c0
      go_wp2_with fail
      go_roundg (ns.length - (k + 1))
      case measure => omega
      case rel =>
        refine ⟨k + 1, by omega, rfl, by go_num, ?_, unhide HF⟩
        rw [unhide HT, List.flatMap_append, show (o || decide (0 < k + 1)) = true by simp]
        simp only [List.flatMap_cons, List.flatMap_nil, List.append_nil]
        rw [← List.append_assoc]
        exact unhide HP
    · have hk2 : ¬ (k : Int) < (ns.length : Int) := by omega
      go_wp2_with fail
      go_end0
      refine ⟨rfl, ?_, (unhide HY).2⟩
      have := (unhide HY).1
      rwa [List.take_of_length_le (by omega), show (o || decide (0 < k)) = true by simp; omega] at this

set_option maxRecDepth 100000 in
set_option maxHeartbeats 4000000 in
theorem cconst_any {B q : Nat} {o : Bool} {w : World} {bs : List Int} (h : Cw B q o w bs) (x : PC) (hin : I64 x.n) (hlen : (bs ++ encC x).length ≤ 20000000) :
    Calls Tryz.prog 18 #[.pointer (some ⟨q, 0, none⟩), .agg #[.bool x.text, .string x.s, .int .i64 x.n]] w fun e w' => CwPost B q w (bs ++ encC x) e w' := by
  have H := hide h
  have HL := hide hlen
  have HI := hide hin
  have HSZ := hide h.sz
  have HQL := hide h.lt
  clear h hlen hin
  cases ht : x.text with
  | true =>
    have hlb : (bs ++ (encB true ++ encT x.s)).length ≤ 20000000 := by rw [← encC_true x ht]; exact unhide HL
    have HLB := hide hlb
    have HEQ := hide (show bs ++ encC x = (bs ++ encB true) ++ encT x.s by rw [encC_true x ht, List.append_assoc])
    clear hlb ht
    go_enter Tryz.func18, Tryz.ntmps18
    go_wp2_with fail
    refine (ctruth_any ((unhide H).alloc _) true (by have := unhide HLB; simp only [List.length_append] at this ⊢; omega)).mono ?_
    rintro e w1 ⟨rfl, hw1, hf1⟩
    have hk := hf1.keep w.heap.size _ _ _ (hnew w _) (by decide) (by have := unhide HQL; omega)
    have k0 := hcell hk 0
    have k1 := hcell hk 1
    have k2 := hcell hk 2
    have H1 := hide hw1
    have HF1 := hide ((FrU.al (q := q) (unhide HSZ) _).trans hf1)
    clear hw1 hf1 hk
    go_wp2_with fail
    refine (ctext_any (unhide H1) x.s (by have := unhide HLB; simp only [List.length_append] at this ⊢; omega)).mono ?_
    rintro e w2 ⟨rfl, hw2, hf2⟩
    have H2 := hide hw2
    have HF2 := hide ((unhide HF1).trans hf2)
    clear hw2 hf2 k0 k1 k2
    go_wp2_with fail
    go_end0
    rw [unhide HEQ]
    exact ⟨rfl, unhide H2, unhide HF2⟩
  | false =>
    have hlb : (bs ++ (encB false ++ encN x.n)).length ≤ 20000000 := by rw [← encC_false x ht]; exact unhide HL
    have HLB := hide hlb
    have HEQ := hide (show bs ++ encC x = (bs ++ encB false) ++ encN x.n by rw [encC_false x ht, List.append_assoc])
    clear hlb ht
    go_enter Tryz.func18, Tryz.ntmps18
    go_wp2_with fail
    refine (ctruth_any ((unhide H).alloc _) false (by have := unhide HLB; simp only [List.length_append] at this ⊢; omega)).mono ?_
    rintro e w1 ⟨rfl, hw1, hf1⟩
    have hk := hf1.keep w.heap.size _ _ _ (hnew w _) (by decide) (by have := unhide HQL; omega)
    have k0 := hcell hk 0
    have k1 := hcell hk 1
    have k2 := hcell hk 2
    have H1 := hide hw1
    have HF1 := hide ((FrU.al (q := q) (unhide HSZ) _).trans hf1)
    clear hw1 hf1 hk
    go_wp2_with fail
    refine (cnum_any (unhide H1) (unhide HI) (by have := unhide HLB; simp only [List.length_append] at this ⊢; omega)).mono ?_
    rintro e w2 ⟨rfl, hw2, hf2⟩
    have H2 := hide hw2
    have HF2 := hide ((unhide HF1).trans hf2)
    clear hw2 hf2 k0 k1 k2
    go_wp2_with fail
    go_end0
    rw [unhide HEQ]
    exact ⟨rfl, unhide H2, unhide HF2⟩

set_option maxRecDepth 100000 in
set_option maxHeartbeats 4000000 in
theorem cinstr_any {B q : Nat} {o : Bool} {w : World} {bs : List Int} (h : Cw B q o w bs) {bx : Nat} (hbx : w.heap[bx]? = some (.cells #[.pointer (some ⟨q, 0, none⟩)] 84 (0, 0))) (_hbq : bx ≠ q) (x : PI) (hin : ∀ n ∈ [x.op, x.a, x.b], I64 n) (hlen : (bs ++ encI x).length ≤ 20000000) :
    Calls Tryz.prog 36 #[.agg #[.int .i64 x.op, .int .i64 x.a, .int .i64 x.b], .pointer (some ⟨bx, 0, none⟩)] w fun e w' => CwPost B q w (bs ++ encI x) e w' := by
  have H := hide h
  have HI := hide hin
  have HEQ := hide (show [x.op, x.a, x.b].flatMap encN = encI x by simp [encI])
  have HL := hide hlen
  have HSZ := hide h.sz
  have HQL := hide h.lt
  have y : ∀ o, (w.alloc o).cell? ⟨bx, 0, none⟩ = some (.pointer (some ⟨q, 0, none⟩)) := cell_al (hcell hbx 0)
  clear h hin hlen hbx
  go_enter Tryz.func36, Tryz.ntmps36
  go_wp2_with fail
  refine (cnums_any (nb := w.heap.size + 1) (((unhide H).alloc _).alloc _) [x.op, x.a, x.b] (unhide HI) (by rw [unhide HEQ]; exact unhide HL) (by simp) (by simp) (hnew' _ _ (by simp)) (by have := unhide HQL; omega) 3).mono ?_
  rintro e w1 ⟨rfl, hw1, hf1⟩
  rw [unhide HEQ] at hw1
  have H1 := hide hw1
  have HF1 := hide ((FrU.al (q := q) (unhide HSZ) _).trans ((FrU.al (q := q) (by have := unhide HSZ; simp; omega) _).trans hf1))
  clear hw1 hf1 y
  go_wp2_with fail
  go_end0
  exact ⟨rfl, unhide H1, unhide HF1⟩

set_option maxRecDepth 100000 in
set_option maxHeartbeats 4000000 in
theorem chand_any {B q : Nat} {o : Bool} {w : World} {bs : List Int} (h : Cw B q o w bs) {bx : Nat} (hbx : w.heap[bx]? = some (.cells #[.pointer (some ⟨q, 0, none⟩)] 84 (0, 0))) (_hbq : bx ≠ q) (x : PH) (hin : ∀ n ∈ [x.fr, x.to, x.tg], I64 n) (hlen : (bs ++ encH x).length ≤ 20000000) :
    Calls Tryz.prog 38 #[.agg #[.int .i64 x.fr, .int .i64 x.to, .int .i64 x.tg], .pointer (some ⟨bx, 0, none⟩)] w fun e w' => CwPost B q w (bs ++ encH x) e w' := by
  have H := hide h
  have HI := hide hin
  have HEQ := hide (show [x.fr, x.to, x.tg].flatMap encN = encH x by simp [encH])
  have HL := hide hlen
  have HSZ := hide h.sz
  have HQL := hide h.lt
  have y : ∀ o, (w.alloc o).cell? ⟨bx, 0, none⟩ = some (.pointer (some ⟨q, 0, none⟩)) := cell_al (hcell hbx 0)
  clear h hin hlen hbx
  go_enter Tryz.func38, Tryz.ntmps38
  go_wp2_with fail
  refine (cnums_any (nb := w.heap.size + 1) (((unhide H).alloc _).alloc _) [x.fr, x.to, x.tg] (unhide HI) (by rw [unhide HEQ]; exact unhide HL) (by simp) (by simp) (hnew' _ _ (by simp)) (by have := unhide HQL; omega) 3).mono ?_
  rintro e w1 ⟨rfl, hw1, hf1⟩
  rw [unhide HEQ] at hw1
  have H1 := hide hw1
  have HF1 := hide ((FrU.al (q := q) (unhide HSZ) _).trans ((FrU.al (q := q) (by have := unhide HSZ; simp; omega) _).trans hf1))
  clear hw1 hf1 y
  go_wp2_with fail
  go_end0
  exact ⟨rfl, unhide H1, unhide HF1⟩

set_option maxRecDepth 100000 in
set_option maxHeartbeats 4000000 in
theorem cvar_any {B q : Nat} {o : Bool} {w : World} {bs : List Int} (h : Cw B q o w bs) {bx : Nat} (hbx : w.heap[bx]? = some (.cells #[.pointer (some ⟨q, 0, none⟩)] 84 (0, 0))) (hbq : bx ≠ q) (x : PV) (hin : okV x) (hlen : (bs ++ encV x).length ≤ 20000000) :
    Calls Tryz.prog 40 #[.agg #[.string x.name, .int .i64 x.slot, .int .i64 x.fr, .int .i64 x.to, .bool x.boxed], .pointer (some ⟨bx, 0, none⟩)] w fun e w' => CwPost B q w (bs ++ encV x) e w' := by
  have H := hide h
  have HI := hide (show ∀ n ∈ [x.slot, x.fr, x.to], I64 n from fun n hn => by
    simp at hn
    rcases hn with rfl | rfl | rfl
    · exact hin.1
    · exact hin.2.1
    · exact hin.2.2)
  have HEQ := hide (show bs ++ encV x = ((bs ++ encT x.name) ++ [x.slot, x.fr, x.to].flatMap encN) ++ encB x.boxed by simp [encV])
  have HL := hide hlen
  have HSZ := hide h.sz
  have HQL := hide h.lt
  have HBX := hide hbx
  have HBQ := hide hbq
  have y : ∀ o, (w.alloc o).cell? ⟨bx, 0, none⟩ = some (.pointer (some ⟨q, 0, none⟩)) := cell_al (hcell hbx 0)
  clear h hin hlen hbx hbq
  go_enter Tryz.func40, Tryz.ntmps40
  go_wp2_with fail
  refine (ctext_any ((unhide H).alloc _) x.name (by have := unhide HL; simp only [encV, List.length_append] at this ⊢; omega)).mono ?_
  rintro e w1 ⟨rfl, hw1, hf1⟩
  have hk := hf1.keep w.heap.size _ _ _ (hnew w _) (by decide) (by have := unhide HQL; omega)
  have k1 : w1.cell? ⟨w.heap.size, 1, none⟩ = some (.int .i64 x.slot) := hcell hk 1
  have k2 : w1.cell? ⟨w.heap.size, 2, none⟩ = some (.int .i64 x.fr) := hcell hk 2
  have k3 : w1.cell? ⟨w.heap.size, 3, none⟩ = some (.int .i64 x.to) := hcell hk 3
  have HF1 := hide ((FrU.al (q := q) (unhide HSZ) _).trans hf1)
  have hbk1 := (unhide HF1).keep bx _ _ _ (unhide HBX) (by decide) (unhide HBQ)
  have y1 : w1.cell? ⟨bx, 0, none⟩ = some (.pointer (some ⟨q, 0, none⟩)) := hcell hbk1 0
  have HK1 := hide hk
  have HX1 := hide hbk1
  have H1 := hide hw1
  have hsz1 := hw1.sz
  have hql1 := hw1.lt
  clear hw1 hf1 hk hbk1 y
  go_wp2_with fail
  refine (cnums_any (nb := w1.heap.size) ((unhide H1).alloc _) [x.slot, x.fr, x.to] (unhide HI) (by have := unhide HL; simp only [encV, List.length_append, List.flatMap_cons, List.flatMap_nil, List.length_nil] at this ⊢; omega) (by simp) (by simp) (hnew _ _) (by omega) 3).mono ?_
  rintro e w2 ⟨rfl, hw2, hf2⟩
  have HF2 := hide ((unhide HF1).trans ((FrU.al (q := q) hsz1 _).trans hf2))
  have hbk2 := ((FrU.al (q := q) hsz1 _).trans hf2).keep bx _ _ _ (unhide HX1) (by decide) (unhide HBQ)
  have hk2 := ((FrU.al (q := q) hsz1 _).trans hf2).keep w.heap.size _ _ _ (unhide HK1) (by decide) (by have := unhide HQL; omega)
  have y2 : w2.cell? ⟨bx, 0, none⟩ = some (.pointer (some ⟨q, 0, none⟩)) := hcell hbk2 0
  have k4 : w2.cell? ⟨w.heap.size, 4, none⟩ = some (.bool x.boxed) := hcell hk2 4
  have H2 := hide hw2
  clear hw2 hf2 hbk2 hk2 k1 k2 k3 y1
  go_wp2_with fail
  refine (ctruth_any (unhide H2) x.boxed (by have := unhide HL; simp only [encV, List.length_append, List.flatMap_cons, List.flatMap_nil, List.length_nil] at this ⊢; omega)).mono ?_
  rintro e w3 ⟨rfl, hw3, hf3⟩
  have H3 := hide hw3
  have HF3 := hide ((unhide HF2).trans hf3)
  clear hw3 hf3 y2 k4
  go_wp2_with fail
  go_end0
  rw [unhide HEQ]
  exact ⟨rfl, unhide H3, unhide HF3⟩
end Go.Proofs.YtkafldkhmkdafaaGreatDoor

namespace Go.Proofs.YtkafldkhmkdafaaGreatDoor
open Go.RowKit

theorem take_next {X : Type} {xs : List X} {k : Nat} {x : X} (h : xs[k]? = some x) : xs.take (k + 1) = xs.take k ++ [x] := by
  rw [List.take_add_one, h]
  rfl
theorem flat_next {X : Type} {enc : X → List Int} {xs : List X} {k : Nat} {x : X} (h : xs[k]? = some x) (bs : List Int) : (bs ++ (xs.take k).flatMap enc ++ enc x).length ≤ (bs ++ xs.flatMap enc).length := by
  have h2 : xs = xs.take (k + 1) ++ xs.drop (k + 1) := (List.take_append_drop _ _).symm
  have h3 : xs.flatMap enc = (xs.take k).flatMap enc ++ enc x ++ (xs.drop (k + 1)).flatMap enc := by
    have h4 := congrArg (List.flatMap enc) h2
    rw [take_next h, List.flatMap_append, List.flatMap_append] at h4
    simpa using h4
  rw [h3]
  simp only [List.length_append]
  omega

set_option maxRecDepth 100000 in
set_option maxHeartbeats 4000000 in
theorem wlS {w0 : World} {q : Nat} {o : Bool} {w : World} {bs : List Int} (h : Cw w0.heap.size q o w bs) (hw0 : Below w0.heap.size w0 w) {g : Option Addr} {cap : Nat} (xs : List ByteArray) (hR : RowsAt w0 g xs.length 1 (strRow xs)) (hok : ∀ x ∈ xs, True) (hlen : (bs ++ encL encT xs).length ≤ 20000000) :
    Calls Tryz.prog 33 #[.pointer (some ⟨q, 0, none⟩), .slice g xs.length cap, .func (.func 32) #[.pointer (some ⟨q, 0, none⟩)] #[]] w fun e w' => CwPost w0.heap.size q w (bs ++ encL encT xs) e w' := by
  have H := hide h
  have HW0 := hide hw0
  have HR := hide hR
  have HOK := hide hok
  have hll := hlen
  simp only [encL, List.length_append] at hll
  have hmany : xs.length ≤ 20000000 := by have := flat_many (ok := fun _ => True) encT_pos xs; omega
  have HLEN := hide (show ((bs ++ encN xs.length) ++ xs.flatMap encT).length ≤ 20000000 by simp only [List.length_append]; omega)
  clear h hw0 hR hok hlen hll
  go_enter Tryz.func33, Tryz.ntmps33
  go_wp2_with fail
  refine (cnum_any (unhide H) (n := (xs.length : Int)) ⟨by omega, by omega⟩ (by have := unhide HLEN; simp only [List.length_append] at this ⊢; omega)).mono ?_
  rintro e w1 ⟨rfl, hw1, hf1⟩
  have H1 := hide hw1
  have HF1 := hide hf1
  clear hw1 hf1
  go_wp2_with fail
  go_loopg [14] xs.length (fun gg i wr => ∃ (k : Nat), k ≤ xs.length ∧ gg = xs.length - k ∧ i = .int .i64 k ∧ Hid (Cw w0.heap.size q true wr ((bs ++ encN xs.length) ++ (xs.take k).flatMap encT) ∧ FrU w0.heap.size q w wr))
  case atStart => exact ⟨0, Nat.zero_le _, rfl, rfl, by simpa using unhide H1, unhide HF1⟩
  case round =>
    obtain ⟨k, hk, rfl, rfl, HY⟩ := hrel
    by_cases hlk : k < xs.length
    · have hk2 : (k : Int) < (xs.length : Int) := by omega
      obtain ⟨x, hx⟩ : ∃ x, xs[k]? = some x := ⟨xs[k], List.getElem?_eq_getElem hlk⟩
      obtain ⟨gb, go, rfl, hcs⟩ := (unhide HR).keep ((unhide HW0).trans (unhide HY).2.toBelow) k hlk
      have c0 : wr.cell? ⟨gb, go + k, none⟩ = some (.string x) := by
        have := hcs 0 (by omega)
        rw [strRow, hx] at this
        simpa using this
      have HX := hide hx
      have HOX := hide ((unhide HOK) x (List.mem_of_getElem? hx))
      have HLX := hide (Nat.le_trans (flat_next (enc := encT) hx (bs ++ encN xs.length)) (unhide HLEN))
      clear hx hcs
      go_wp2_with fail
      refine (ctext_any (unhide HY).1 x (unhide HLX)).mono ?_
      rintro e w3 ⟨rfl, hw3, hf3⟩
      have H3 := hide hw3
      have HF3 := hide ((unhide HY).2.trans hf3)
      clear hw3 hf3 c0
      go_wp2_with fail
      go_roundg (xs.length - (k + 1))
      case measure => omega
      case rel =>
        refine ⟨k + 1, by omega, rfl, by go_num, ?_, unhide HF3⟩
        rw [take_next (unhide HX), List.flatMap_append, ← List.append_assoc]
        simpa using unhide H3
    · have hk2 : ¬ (k : Int) < (xs.length : Int) := by omega
      go_wp2_with fail
      go_end0
      refine ⟨rfl, ?_, (unhide HY).2⟩
      have := (unhide HY).1
      rw [List.take_of_length_le (by omega), List.append_assoc] at this
      exact this

set_option maxRecDepth 100000 in
set_option maxHeartbeats 4000000 in
theorem wlC {w0 : World} {q : Nat} {o : Bool} {w : World} {bs : List Int} (h : Cw w0.heap.size q o w bs) (hw0 : Below w0.heap.size w0 w) {g : Option Addr} {cap : Nat} (xs : List PC) (hR : RowsAt w0 g xs.length 3 (constRow xs)) (hok : ∀ x ∈ xs, I64 x.n) (hlen : (bs ++ encL encC xs).length ≤ 20000000) :
    Calls Tryz.prog 17 #[.pointer (some ⟨q, 0, none⟩), .slice g xs.length cap, .func (.func 18) #[.pointer (some ⟨q, 0, none⟩)] #[]] w fun e w' => CwPost w0.heap.size q w (bs ++ encL encC xs) e w' := by
  have H := hide h
  have HW0 := hide hw0
  have HR := hide hR
  have HOK := hide hok
  have hll := hlen
  simp only [encL, List.length_append] at hll
  have hmany : xs.length ≤ 20000000 := by have := flat_many (ok := fun _ => True) encC_pos xs; omega
  have HLEN := hide (show ((bs ++ encN xs.length) ++ xs.flatMap encC).length ≤ 20000000 by simp only [List.length_append]; omega)
  clear h hw0 hR hok hlen hll
  go_enter Tryz.func17, Tryz.ntmps17
  go_wp2_with fail
  refine (cnum_any (unhide H) (n := (xs.length : Int)) ⟨by omega, by omega⟩ (by have := unhide HLEN; simp only [List.length_append] at this ⊢; omega)).mono ?_
  rintro e w1 ⟨rfl, hw1, hf1⟩
  have H1 := hide hw1
  have HF1 := hide hf1
  clear hw1 hf1
  go_wp2_with fail
  go_loopg [14] xs.length (fun gg i wr => ∃ (k : Nat), k ≤ xs.length ∧ gg = xs.length - k ∧ i = .int .i64 k ∧ Hid (Cw w0.heap.size q true wr ((bs ++ encN xs.length) ++ (xs.take k).flatMap encC) ∧ FrU w0.heap.size q w wr))
  case atStart => exact ⟨0, Nat.zero_le _, rfl, rfl, by simpa using unhide H1, unhide HF1⟩
  case round =>
    obtain ⟨k, hk, rfl, rfl, HY⟩ := hrel
    by_cases hlk : k < xs.length
    · have hk2 : (k : Int) < (xs.length : Int) := by omega
      obtain ⟨x, hx⟩ : ∃ x, xs[k]? = some x := ⟨xs[k], List.getElem?_eq_getElem hlk⟩
      obtain ⟨gb, go, rfl, hcs⟩ := (unhide HR).keep ((unhide HW0).trans (unhide HY).2.toBelow) k hlk
      have c0 : wr.cell? ⟨gb, go + k * 3, none⟩ = some (.bool x.text) := by
        have := hcs 0 (by omega)
        rw [constRow, hx] at this
        simpa using this
      have c1 : wr.cell? ⟨gb, go + k * 3 + 1, none⟩ = some (.string x.s) := by
        have := hcs 1 (by omega)
        rw [constRow, hx] at this
        simpa using this
      have c2 : wr.cell? ⟨gb, go + k * 3 + 2, none⟩ = some (.int .i64 x.n) := by
        have := hcs 2 (by omega)
        rw [constRow, hx] at this
        simpa using this
      have HX := hide hx
      have HOX := hide ((unhide HOK) x (List.mem_of_getElem? hx))
      have HLX := hide (Nat.le_trans (flat_next (enc := encC) hx (bs ++ encN xs.length)) (unhide HLEN))
      clear hx hcs
      go_wp2_with fail
      refine (cconst_any ((unhide HY).1.alloc _) x (unhide HOX) (unhide HLX)).mono ?_
      rintro e w3 ⟨rfl, hw3, hf3⟩
      have H3 := hide hw3
      have HF3 := hide ((unhide HY).2.trans ((FrU.al (q := q) (unhide HY).1.sz _).trans hf3))
      clear hw3 hf3 c0 c1 c2
      go_wp2_with fail
      go_roundg (xs.length - (k + 1))
      case measure => omega
      case rel =>
        refine ⟨k + 1, by omega, rfl, by go_num, ?_, unhide HF3⟩
        rw [take_next (unhide HX), List.flatMap_append, ← List.append_assoc]
        simpa using unhide H3
    · have hk2 : ¬ (k : Int) < (xs.length : Int) := by omega
      go_wp2_with fail
      go_end0
      refine ⟨rfl, ?_, (unhide HY).2⟩
      have := (unhide HY).1
      rw [List.take_of_length_le (by omega), List.append_assoc] at this
      exact this

set_option maxRecDepth 100000 in
set_option maxHeartbeats 4000000 in
theorem wlI {w0 : World} {q : Nat} {o : Bool} {w : World} {bs : List Int} (h : Cw w0.heap.size q o w bs) (hw0 : Below w0.heap.size w0 w) {bx : Nat} (hbx : w.heap[bx]? = some (.cells #[.pointer (some ⟨q, 0, none⟩)] 84 (0, 0))) (hbq : bx ≠ q) {g : Option Addr} {cap : Nat} (xs : List PI) (hR : RowsAt w0 g xs.length 3 (instrRow xs)) (hok : ∀ x ∈ xs, okI x) (hlen : (bs ++ encL encI xs).length ≤ 20000000) :
    Calls Tryz.prog 35 #[.pointer (some ⟨q, 0, none⟩), .slice g xs.length cap, .func (.func 36) #[] #[.pointer (some ⟨bx, 0, none⟩)]] w fun e w' => CwPost w0.heap.size q w (bs ++ encL encI xs) e w' := by
  have H := hide h
  have HW0 := hide hw0
  have HR := hide hR
  have HOK := hide hok
  have hll := hlen
  simp only [encL, List.length_append] at hll
  have hmany : xs.length ≤ 20000000 := by have := flat_many (ok := fun _ => True) encI_pos xs; omega
  have HLEN := hide (show ((bs ++ encN xs.length) ++ xs.flatMap encI).length ≤ 20000000 by simp only [List.length_append]; omega)
  have HBX := hide hbx
  have HBQ := hide hbq
  clear hbx hbq
  clear h hw0 hR hok hlen hll
  go_enter Tryz.func35, Tryz.ntmps35
  go_wp2_with fail
  refine (cnum_any (unhide H) (n := (xs.length : Int)) ⟨by omega, by omega⟩ (by have := unhide HLEN; simp only [List.length_append] at this ⊢; omega)).mono ?_
  rintro e w1 ⟨rfl, hw1, hf1⟩
  have H1 := hide hw1
  have HF1 := hide hf1
  clear hw1 hf1
  go_wp2_with fail
  go_loopg [14] xs.length (fun gg i wr => ∃ (k : Nat), k ≤ xs.length ∧ gg = xs.length - k ∧ i = .int .i64 k ∧ Hid (Cw w0.heap.size q true wr ((bs ++ encN xs.length) ++ (xs.take k).flatMap encI) ∧ FrU w0.heap.size q w wr))
  case atStart => exact ⟨0, Nat.zero_le _, rfl, rfl, by simpa using unhide H1, unhide HF1⟩
  case round =>
    obtain ⟨k, hk, rfl, rfl, HY⟩ := hrel
    by_cases hlk : k < xs.length
    · have hk2 : (k : Int) < (xs.length : Int) := by omega
      obtain ⟨x, hx⟩ : ∃ x, xs[k]? = some x := ⟨xs[k], List.getElem?_eq_getElem hlk⟩
      obtain ⟨gb, go, rfl, hcs⟩ := (unhide HR).keep ((unhide HW0).trans (unhide HY).2.toBelow) k hlk
      have c0 : wr.cell? ⟨gb, go + k * 3, none⟩ = some (.int .i64 x.op) := by
        have := hcs 0 (by omega)
        rw [instrRow, hx] at this
        simpa using this
      have c1 : wr.cell? ⟨gb, go + k * 3 + 1, none⟩ = some (.int .i64 x.a) := by
        have := hcs 1 (by omega)
        rw [instrRow, hx] at this
        simpa using this
      have c2 : wr.cell? ⟨gb, go + k * 3 + 2, none⟩ = some (.int .i64 x.b) := by
        have := hcs 2 (by omega)
        rw [instrRow, hx] at this
        simpa using this
      have HX := hide hx
      have HOX := hide ((unhide HOK) x (List.mem_of_getElem? hx))
      have HLX := hide (Nat.le_trans (flat_next (enc := encI) hx (bs ++ encN xs.length)) (unhide HLEN))
      clear hx hcs
      go_wp2_with fail
      refine (cinstr_any ((unhide HY).1.alloc _) ((FrU.al (q := q) (unhide HY).1.sz _).keep bx _ _ _ ((unhide HY).2.keep bx _ _ _ (unhide HBX) (by decide) (unhide HBQ)) (by decide) (unhide HBQ)) (unhide HBQ) x (fun n hn => by
        have hh := unhide HOX
        simp at hn
        rcases hn with rfl | rfl | rfl
        · exact hh.1
        · exact hh.2.1
        · exact hh.2.2) (unhide HLX)).mono ?_
      rintro e w3 ⟨rfl, hw3, hf3⟩
      have H3 := hide hw3
      have HF3 := hide ((unhide HY).2.trans ((FrU.al (q := q) (unhide HY).1.sz _).trans hf3))
      clear hw3 hf3 c0 c1 c2
      go_wp2_with fail
      go_roundg (xs.length - (k + 1))
      case measure => omega
      case rel =>
        refine ⟨k + 1, by omega, rfl, by go_num, ?_, unhide HF3⟩
        rw [take_next (unhide HX), List.flatMap_append, ← List.append_assoc]
        simpa using unhide H3
    · have hk2 : ¬ (k : Int) < (xs.length : Int) := by omega
      go_wp2_with fail
      go_end0
      refine ⟨rfl, ?_, (unhide HY).2⟩
      have := (unhide HY).1
      rw [List.take_of_length_le (by omega), List.append_assoc] at this
      exact this

set_option maxRecDepth 100000 in
set_option maxHeartbeats 4000000 in
theorem wlH {w0 : World} {q : Nat} {o : Bool} {w : World} {bs : List Int} (h : Cw w0.heap.size q o w bs) (hw0 : Below w0.heap.size w0 w) {bx : Nat} (hbx : w.heap[bx]? = some (.cells #[.pointer (some ⟨q, 0, none⟩)] 84 (0, 0))) (hbq : bx ≠ q) {g : Option Addr} {cap : Nat} (xs : List PH) (hR : RowsAt w0 g xs.length 3 (handRow xs)) (hok : ∀ x ∈ xs, okH x) (hlen : (bs ++ encL encH xs).length ≤ 20000000) :
    Calls Tryz.prog 37 #[.pointer (some ⟨q, 0, none⟩), .slice g xs.length cap, .func (.func 38) #[] #[.pointer (some ⟨bx, 0, none⟩)]] w fun e w' => CwPost w0.heap.size q w (bs ++ encL encH xs) e w' := by
  have H := hide h
  have HW0 := hide hw0
  have HR := hide hR
  have HOK := hide hok
  have hll := hlen
  simp only [encL, List.length_append] at hll
  have hmany : xs.length ≤ 20000000 := by have := flat_many (ok := fun _ => True) encH_pos xs; omega
  have HLEN := hide (show ((bs ++ encN xs.length) ++ xs.flatMap encH).length ≤ 20000000 by simp only [List.length_append]; omega)
  have HBX := hide hbx
  have HBQ := hide hbq
  clear hbx hbq
  clear h hw0 hR hok hlen hll
  go_enter Tryz.func37, Tryz.ntmps37
  go_wp2_with fail
  refine (cnum_any (unhide H) (n := (xs.length : Int)) ⟨by omega, by omega⟩ (by have := unhide HLEN; simp only [List.length_append] at this ⊢; omega)).mono ?_
  rintro e w1 ⟨rfl, hw1, hf1⟩
  have H1 := hide hw1
  have HF1 := hide hf1
  clear hw1 hf1
  go_wp2_with fail
  go_loopg [14] xs.length (fun gg i wr => ∃ (k : Nat), k ≤ xs.length ∧ gg = xs.length - k ∧ i = .int .i64 k ∧ Hid (Cw w0.heap.size q true wr ((bs ++ encN xs.length) ++ (xs.take k).flatMap encH) ∧ FrU w0.heap.size q w wr))
  case atStart => exact ⟨0, Nat.zero_le _, rfl, rfl, by simpa using unhide H1, unhide HF1⟩
  case round =>
    obtain ⟨k, hk, rfl, rfl, HY⟩ := hrel
    by_cases hlk : k < xs.length
    · have hk2 : (k : Int) < (xs.length : Int) := by omega
      obtain ⟨x, hx⟩ : ∃ x, xs[k]? = some x := ⟨xs[k], List.getElem?_eq_getElem hlk⟩
      obtain ⟨gb, go, rfl, hcs⟩ := (unhide HR).keep ((unhide HW0).trans (unhide HY).2.toBelow) k hlk
      have c0 : wr.cell? ⟨gb, go + k * 3, none⟩ = some (.int .i64 x.fr) := by
        have := hcs 0 (by omega)
        rw [handRow, hx] at this
        simpa using this
      have c1 : wr.cell? ⟨gb, go + k * 3 + 1, none⟩ = some (.int .i64 x.to) := by
        have := hcs 1 (by omega)
        rw [handRow, hx] at this
        simpa using this
      have c2 : wr.cell? ⟨gb, go + k * 3 + 2, none⟩ = some (.int .i64 x.tg) := by
        have := hcs 2 (by omega)
        rw [handRow, hx] at this
        simpa using this
      have HX := hide hx
      have HOX := hide ((unhide HOK) x (List.mem_of_getElem? hx))
      have HLX := hide (Nat.le_trans (flat_next (enc := encH) hx (bs ++ encN xs.length)) (unhide HLEN))
      clear hx hcs
      go_wp2_with fail
      refine (chand_any ((unhide HY).1.alloc _) ((FrU.al (q := q) (unhide HY).1.sz _).keep bx _ _ _ ((unhide HY).2.keep bx _ _ _ (unhide HBX) (by decide) (unhide HBQ)) (by decide) (unhide HBQ)) (unhide HBQ) x (fun n hn => by
        have hh := unhide HOX
        simp at hn
        rcases hn with rfl | rfl | rfl
        · exact hh.1
        · exact hh.2.1
        · exact hh.2.2) (unhide HLX)).mono ?_
      rintro e w3 ⟨rfl, hw3, hf3⟩
      have H3 := hide hw3
      have HF3 := hide ((unhide HY).2.trans ((FrU.al (q := q) (unhide HY).1.sz _).trans hf3))
      clear hw3 hf3 c0 c1 c2
      go_wp2_with fail
      go_roundg (xs.length - (k + 1))
      case measure => omega
      case rel =>
        refine ⟨k + 1, by omega, rfl, by go_num, ?_, unhide HF3⟩
        rw [take_next (unhide HX), List.flatMap_append, ← List.append_assoc]
        simpa using unhide H3
    · have hk2 : ¬ (k : Int) < (xs.length : Int) := by omega
      go_wp2_with fail
      go_end0
      refine ⟨rfl, ?_, (unhide HY).2⟩
      have := (unhide HY).1
      rw [List.take_of_length_le (by omega), List.append_assoc] at this
      exact this

set_option maxRecDepth 100000 in
set_option maxHeartbeats 4000000 in
theorem wlV {w0 : World} {q : Nat} {o : Bool} {w : World} {bs : List Int} (h : Cw w0.heap.size q o w bs) (hw0 : Below w0.heap.size w0 w) {bx : Nat} (hbx : w.heap[bx]? = some (.cells #[.pointer (some ⟨q, 0, none⟩)] 84 (0, 0))) (hbq : bx ≠ q) {g : Option Addr} {cap : Nat} (xs : List PV) (hR : RowsAt w0 g xs.length 5 (varRow xs)) (hok : ∀ x ∈ xs, okV x) (hlen : (bs ++ encL encV xs).length ≤ 20000000) :
    Calls Tryz.prog 39 #[.pointer (some ⟨q, 0, none⟩), .slice g xs.length cap, .func (.func 40) #[] #[.pointer (some ⟨bx, 0, none⟩)]] w fun e w' => CwPost w0.heap.size q w (bs ++ encL encV xs) e w' := by
  have H := hide h
  have HW0 := hide hw0
  have HR := hide hR
  have HOK := hide hok
  have hll := hlen
  simp only [encL, List.length_append] at hll
  have hmany : xs.length ≤ 20000000 := by have := flat_many (ok := fun _ => True) encV_pos xs; omega
  have HLEN := hide (show ((bs ++ encN xs.length) ++ xs.flatMap encV).length ≤ 20000000 by simp only [List.length_append]; omega)
  have HBX := hide hbx
  have HBQ := hide hbq
  clear hbx hbq
  clear h hw0 hR hok hlen hll
  go_enter Tryz.func39, Tryz.ntmps39
  go_wp2_with fail
  refine (cnum_any (unhide H) (n := (xs.length : Int)) ⟨by omega, by omega⟩ (by have := unhide HLEN; simp only [List.length_append] at this ⊢; omega)).mono ?_
  rintro e w1 ⟨rfl, hw1, hf1⟩
  have H1 := hide hw1
  have HF1 := hide hf1
  clear hw1 hf1
  go_wp2_with fail
  go_loopg [14] xs.length (fun gg i wr => ∃ (k : Nat), k ≤ xs.length ∧ gg = xs.length - k ∧ i = .int .i64 k ∧ Hid (Cw w0.heap.size q true wr ((bs ++ encN xs.length) ++ (xs.take k).flatMap encV) ∧ FrU w0.heap.size q w wr))
  case atStart => exact ⟨0, Nat.zero_le _, rfl, rfl, by simpa using unhide H1, unhide HF1⟩
  case round =>
    obtain ⟨k, hk, rfl, rfl, HY⟩ := hrel
    by_cases hlk : k < xs.length
    · have hk2 : (k : Int) < (xs.length : Int) := by omega
      obtain ⟨x, hx⟩ : ∃ x, xs[k]? = some x := ⟨xs[k], List.getElem?_eq_getElem hlk⟩
      obtain ⟨gb, go, rfl, hcs⟩ := (unhide HR).keep ((unhide HW0).trans (unhide HY).2.toBelow) k hlk
      have c0 : wr.cell? ⟨gb, go + k * 5, none⟩ = some (.string x.name) := by
        have := hcs 0 (by omega)
        rw [varRow, hx] at this
        simpa using this
      have c1 : wr.cell? ⟨gb, go + k * 5 + 1, none⟩ = some (.int .i64 x.slot) := by
        have := hcs 1 (by omega)
        rw [varRow, hx] at this
        simpa using this
      have c2 : wr.cell? ⟨gb, go + k * 5 + 2, none⟩ = some (.int .i64 x.fr) := by
        have := hcs 2 (by omega)
        rw [varRow, hx] at this
        simpa using this
      have c3 : wr.cell? ⟨gb, go + k * 5 + 3, none⟩ = some (.int .i64 x.to) := by
        have := hcs 3 (by omega)
        rw [varRow, hx] at this
        simpa using this
      have c4 : wr.cell? ⟨gb, go + k * 5 + 4, none⟩ = some (.bool x.boxed) := by
        have := hcs 4 (by omega)
        rw [varRow, hx] at this
        simpa using this
      have HX := hide hx
      have HOX := hide ((unhide HOK) x (List.mem_of_getElem? hx))
      have HLX := hide (Nat.le_trans (flat_next (enc := encV) hx (bs ++ encN xs.length)) (unhide HLEN))
      clear hx hcs
      go_wp2_with fail
      refine (cvar_any ((unhide HY).1.alloc _) ((FrU.al (q := q) (unhide HY).1.sz _).keep bx _ _ _ ((unhide HY).2.keep bx _ _ _ (unhide HBX) (by decide) (unhide HBQ)) (by decide) (unhide HBQ)) (unhide HBQ) x (unhide HOX) (unhide HLX)).mono ?_
      rintro e w3 ⟨rfl, hw3, hf3⟩
      have H3 := hide hw3
      have HF3 := hide ((unhide HY).2.trans ((FrU.al (q := q) (unhide HY).1.sz _).trans hf3))
      clear hw3 hf3 c0 c1 c2 c3 c4
      go_wp2_with fail
      go_roundg (xs.length - (k + 1))
      case measure => omega
      case rel =>
        refine ⟨k + 1, by omega, rfl, by go_num, ?_, unhide HF3⟩
        rw [take_next (unhide HX), List.flatMap_append, ← List.append_assoc]
        simpa using unhide H3
    · have hk2 : ¬ (k : Int) < (xs.length : Int) := by omega
      go_wp2_with fail
      go_end0
      refine ⟨rfl, ?_, (unhide HY).2⟩
      have := (unhide HY).1
      rw [List.take_of_length_le (by omega), List.append_assoc] at this
      exact this

end Go.Proofs.YtkafldkhmkdafaaGreatDoor
