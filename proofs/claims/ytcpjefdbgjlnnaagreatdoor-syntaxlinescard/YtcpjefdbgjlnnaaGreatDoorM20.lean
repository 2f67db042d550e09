/-
  The writer at a small program: its lines, and the whole.
  A fact: a program of one statement.
  Line feeds ahead of programs.
-/
import Derived.Test.YtcpjefdbgjlnnaaGreatDoorM19
import Derived.Deep.RegionWith
namespace Go.Proofs.YtcpjefdbgjlnnaaGreatDoor
open Go.RowKit

def lineBytes : List UInt8 := [112, 114, 105, 110, 116, 40, 49, 32, 43, 32, 50, 41, 59, 10]
theorem add_below {w w' : World} (h : Add w w') : Below w.heap.size w w' := ⟨h.os, h.tape, h.output, h.size, h.block⟩
theorem below_add {w w' : World} (h : Below w.heap.size w w') : Add w w' := ⟨h.os, h.tape, h.output, h.size, h.block⟩
theorem fresh_builder {B b : Nat} {w : World} (hB : B ≤ b) (h : w.heap[b]? = some (.cells #[.pointer none, .slice none 0 0] 141 (0, 0))) : Lib.IsBuilder 141 5 B b [] w :=
  Or.inl ⟨hB, .slice none 0 0, h, ⟨by simp, Or.inl ⟨rfl, rfl⟩⟩, by simp [Value.ownBlock]⟩

set_option maxRecDepth 100000 in
set_option maxHeartbeats 8000000 in
theorem lines_one {b g cap k gs caps k0 k1 gl capl : Nat} (w : World) (hg : SG w) (h : PrintAt w b g cap k gs caps k0 k1) (hl : w.cell? ⟨gl, 0, none⟩ = some (.pointer (some ⟨b, 0, none⟩))) :
    Calls Tryz.prog 51 #[.agg #[.int .i64 0], .slice (some ⟨gl, 0, none⟩) 1 capl] w fun e w' => e = .returned (.string ⟨lineBytes.toArray⟩) ∧ Add w w' := by
  have HI := hide h
  have HG := hide hg
  have HL := hide hl
  clear h hg hl
  go_enter Tryz.func51, Tryz.ntmps51
  go_wp2_with fail
  have HWB : Hid (Add w ((w.alloc (.cells #[.int .i64 0] 91)).alloc (.cells #[.pointer none, .slice none 0 0] 141))) := ((Add.refl w).alloc _).alloc _
  have kb : ((w.alloc (.cells #[.int .i64 0] 91)).alloc (.cells #[.pointer none, .slice none 0 0] 141)).cell? ⟨w.heap.size, 0, none⟩ = some (.int .i64 0) := ((Add.refl _).alloc _).cellk (hcell (hnew _ _) 0)
  have hbb : ((w.alloc (.cells #[.int .i64 0] 91)).alloc (.cells #[.pointer none, .slice none 0 0] 141)).heap[w.heap.size + 1]? = some (.cells #[.pointer none, .slice none 0 0] 141 (0, 0)) := hnewAt _ _ (by simp)
  have kl := (unhide HWB).cellk (unhide HL)
  have HBB := hide hbb
  clear hbb HL
  generalize ((w.alloc (.cells #[.int .i64 0] 91)).alloc (.cells #[.pointer none, .slice none 0 0] 141)) = wb at *
  go_loopg [10] 1 (fun gg i wr => (gg = 1 ∧ i = .int .i64 0 ∧ wr = wb) ∨ (gg = 0 ∧ i = .int .i64 1 ∧ Hid (Lib.BuilderAt 141 5 w.heap.size (w.heap.size + 1) (.pointer (some ⟨w.heap.size + 1, 0, none⟩)) (Lib.byteCells lineBytes) wr ∧ Below w.heap.size w wr)))
  case atStart => exact Or.inl ⟨rfl, rfl, rfl⟩
  case round =>
    rcases hrel with ⟨rfl, rfl, rfl⟩ | ⟨rfl, rfl, HB⟩
    · have HR := hide (Add.refl wr)
      go_wp2_with fail
      go_region_with ((first | (go_at_call 83; refine (ahead_zero _).mono ?_; rintro e w1 ⟨rfl, ha1⟩; have HA1 := hide ((unhide HR).drew.tr ha1); have k1 := (unhide HA1).cellk kb; clear ha1) | (go_at_call 84; refine (statement_print _ ((unhide HG).add ((unhide HWB).tr (unhide HA1))) ((unhide HI).add ((unhide HWB).tr (unhide HA1)))).mono ?_; rintro e w2 ⟨rfl, ha2⟩; have HA2 := hide ((unhide HA1).tr ha2); have k2 := (unhide HA2).cellk kb; clear ha2) | (go_at_call 82; refine (writeString_any w.heap.size (w.heap.size + 1) [] _ _ (fresh_builder (by omega) (((unhide HA2).block _ (Array.getElem?_eq_some_iff.1 (unhide HBB)).1).trans (unhide HBB))) (by decide) ((unhide HWB).tr (unhide HA2)).size).mono ?_; rintro e w3 ⟨rfl, hb3, hbl3⟩; have HB3 := hide hb3; have HL3 := hide ((add_below ((unhide HWB).tr (unhide HA2))).trans hbl3); clear hb3 hbl3)))
      all_goals
        go_wp2_with fail
        go_roundg 0
        case measure => omega
        case rel => exact Or.inr ⟨rfl, rfl, unhide HB3, unhide HL3⟩
    · have hb1 := (unhide HB).1
      have hb2 := (unhide HB).2
      have HB1 := hide hb1
      have HB2 := hide hb2
      clear HB hb1 hb2
      go_wp2_with fail
      refine (Tryz.Builder_String_any w.heap.size (w.heap.size + 1) lineBytes _ (Or.inr (unhide HB1)) (unhide HB2).size).mono ?_
      rintro e w4 ⟨rfl, hbl4⟩
      have HL4 := hide ((unhide HB2).trans hbl4)
      clear hbl4
      go_wp2_with fail
      go_ret
      exact ⟨rfl, below_add (unhide HL4)⟩
end Go.Proofs.YtcpjefdbgjlnnaaGreatDoor

namespace Go.Proofs.YtcpjefdbgjlnnaaGreatDoor
open Go.RowKit

theorem NodeAt.kidsAt {A : Nat → Prop} {w : World} {b : Nat} {t : Tree} (h : NodeAt A w (.pointer (some ⟨b, 0, none⟩)) t) (hp : 0 < t.kids.length) :
    ∃ g cap, w.cell? ⟨b, 5, none⟩ = some (.slice (some ⟨g, 0, none⟩) t.kids.length cap) ∧ ∀ (i : Nat) (hi : i < t.kids.length), ∃ kb, w.cell? ⟨g, i, none⟩ = some (.pointer (some ⟨kb, 0, none⟩)) ∧ NodeAt A w (.pointer (some ⟨kb, 0, none⟩)) t.kids[i] := by
  rw [NodeAt_iff] at h
  obtain ⟨b', ty, ks, vs, h1, h2, h3, h4, h5, h6⟩ := h
  cases h1
  rcases h4.cellAt with ⟨rfl, rfl⟩ | ⟨g, cap, rfl, _, hc⟩
  · simp at h5; omega
  · refine ⟨g, cap, by rw [← h5]; exact hcell h3 5, fun i hi => ?_⟩
    have hk := h6 i hi
    obtain ⟨kb, hkb⟩ : ∃ kb, vs.getD i undef = .pointer (some ⟨kb, 0, none⟩) := by
      have hk2 := hk
      rw [NodeAt_iff] at hk2
      obtain ⟨kb, _, _, _, e, _⟩ := hk2
      exact ⟨kb, e⟩
    rw [hkb] at hk
    exact ⟨kb, by rw [hc i (by omega), hkb], hk⟩
theorem NodeAt.numAt {A : Nat → Prop} {w : World} {b : Nat} {t : Tree} (h : NodeAt A w (.pointer (some ⟨b, 0, none⟩)) t) : w.cell? ⟨b, 3, none⟩ = some (.int .i64 t.n) := by
  rw [NodeAt_iff] at h
  obtain ⟨b', ty, ks, vs, h1, h2, h3, _⟩ := h
  cases h1
  exact hcell h3 3

theorem prog_open {A : Nat → Prop} {w : World} {b : Nat} (h : NodeAt A w (.pointer (some ⟨b, 0, none⟩)) prog12) :
    ∃ gl capl b1 g cap k gs caps k0 k1, w.cell? ⟨b, 0, none⟩ = some (.int .i64 1) ∧ w.cell? ⟨b, 5, none⟩ = some (.slice (some ⟨gl, 0, none⟩) 1 capl) ∧ w.cell? ⟨gl, 0, none⟩ = some (.pointer (some ⟨b1, 0, none⟩)) ∧ PrintAt w b1 g cap k gs caps k0 k1 := by
  obtain ⟨gl, capl, e5, hk⟩ := h.kidsAt (by decide)
  obtain ⟨b1, e1, h1⟩ := hk 0 (by decide)
  obtain ⟨g, cap, f5, hk1⟩ := h1.kidsAt (by decide)
  obtain ⟨k, f1, h2⟩ := hk1 0 (by decide)
  obtain ⟨gs, caps, g5, hk2⟩ := h2.kidsAt (by decide)
  obtain ⟨k0, g1, h3⟩ := hk2 0 (by decide)
  obtain ⟨k1, g2, h4⟩ := hk2 1 (by decide)
  exact ⟨gl, capl, b1, g, cap, k, gs, caps, k0, k1, h.knd, e5, e1, ⟨h1.knd, f5, f1, ⟨h2.knd, g5, g1, g2, ⟨h3.knd, h3.numAt⟩, ⟨h4.knd, h4.numAt⟩⟩⟩⟩

set_option maxRecDepth 100000 in
set_option maxHeartbeats 2000000 in
theorem text_one {A : Nat → Prop} {b : Nat} (w : World) (hg : SG w) (h : NodeAt A w (.pointer (some ⟨b, 0, none⟩)) prog12) :
    Calls Tryz.prog 13 #[.pointer (some ⟨b, 0, none⟩)] w fun e w' => e = .returned (.string ⟨#[112, 114, 105, 110, 116, 40, 49, 32, 43, 32, 50, 41, 59, 10]⟩) ∧ Add w w' := by
  obtain ⟨gl, capl, b1, g, cap, k, gs, caps, k0, k1, c0, c5, e1, hp⟩ := prog_open h
  have HC := hide (lines_one (capl := capl) w hg hp e1)
  clear h hg hp e1
  go_enter Tryz.func13, Tryz.ntmps13
  go_wp2_with fail
  refine (unhide HC).mono ?_
  rintro e w1 ⟨rfl, ha⟩
  have HA := hide ha
  clear ha
  go_wp2_with fail
  go_ret
  exact ⟨rfl, unhide HA⟩

set_option maxRecDepth 100000 in
set_option maxHeartbeats 4000000 in
theorem written_any {w : World} (tabs : Tabs w w.heap.size) :
    Calls Tryz.prog 18 #[] w fun e w' => e = .returned (.bool true) ∧ Add w w' := by
  have HT := hide tabs
  clear tabs
  go_enter Tryz.func18, Tryz.ntmps18
  go_wp2_with fail
  refine (read_any (unhide HT) lit (by decide)).mono ?_
  rintro e w1 ⟨h, ha⟩
  rcases h with ⟨t, b, h1, rfl, h3⟩ | ⟨h1, rfl⟩
  · rw [parseT_lit] at h1
    cases h1
    have hg1 : SG w1 := SG.add (unhide HT).signs ha
    obtain ⟨gl, capl, b1, g, cap, k, gs, caps, k0, k1, c0, c5, e1, hp⟩ := prog_open h3
    have d0 := hp.c0
    have HX := hide (text_one w1 hg1 h3)
    have HA := hide ha
    clear h3 hg1 hp ha
    go_wp2_with fail
    refine (unhide HX).mono ?_
    rintro e w2 ⟨rfl, ha2⟩
    have HA2 := hide ((unhide HA).tr ha2)
    clear ha2
    go_wp2_with fail
    go_ret
    exact ⟨rfl, unhide HA2⟩
  · rw [parseT_lit] at h1
    cases h1
end Go.Proofs.YtcpjefdbgjlnnaaGreatDoor

namespace Go.Proofs.YtcpjefdbgjlnnaaGreatDoor
open Go.RowKit

/-- So many line feeds. -/
def nl (k : Nat) : ByteArray := ⟨(List.replicate k 10).toArray⟩
theorem nl_size (k : Nat) : (nl k).size = k := by
  show (List.replicate k 10).toArray.size = k
  simp
theorem nl_succ (k : Nat) : nl k ++ ⟨#[10]⟩ = nl (k + 1) := by
  apply ByteArray.ext
  rw [ByteArray.data_append]
  show (List.replicate k 10).toArray ++ #[10] = (List.replicate (k + 1) 10).toArray
  rw [List.replicate_succ']
  apply Array.toList_inj.1
  simp
theorem nl_byte (k : Nat) (s : ByteArray) (p : Nat) (h : p < (nl k ++ s).size) (hp : p < k) : (nl k ++ s)[p].toNat = 10 := by
  have hl : p < (nl k).size := by rw [nl_size]; exact hp
  rw [ByteArray.getElem_append_left hl]
  have e : (nl k)[p] = (10 : UInt8) := by
    show ((List.replicate k (10 : UInt8)).toArray[p]'(by simpa using hp)) = 10
    simp
  rw [e]
  rfl
theorem nl_shs (k : Nat) (s : ByteArray) : Shs k s (nl k ++ s) := by
  have := shs_append (nl k) s
  rw [nl_size] at this
  exact this

theorem UpT.many {k : Nat} : ∀ (t t' : Tree), UpT k t t' → t'.many = t.many := by
  refine tree_ind _ fun t ih t' h => ?_
  rw [UpT_iff] at h
  obtain ⟨_, _, _, _, _, _, h6, h7⟩ := h
  rw [many_eq, many_eq]
  have e : t'.kids.map Tree.many = t.kids.map Tree.many := by
    apply List.ext_getElem (by simp [h6])
    intro i h1 h2
    have i1 : i < t'.kids.length := by simpa using h1
    have i2 : i < t.kids.length := by simpa using h2
    simp only [List.getElem_map]
    exact ih _ (List.getElem_mem i2) _ (h7 i i2 i1)
  rw [e]

theorem parseT_sh {k : Nat} {s : ByteArray} {v v' : Value} {t : Tree} (hk : k + s.size ≤ 3000) (h : parseT s v = some t) : ∃ t', parseT (nl k ++ s) v' = some t' ∧ UpT k t t' := by
  have hs := parseT_size h
  have hr := readP_sh (nl_shs k s) hs (fun p h hp => nl_byte k s p h hp) v v'
  have hz : (nl k ++ s).size = k + s.size := by rw [ByteArray.size_append, nl_size]
  unfold parseT at h ⊢
  rw [if_neg (by omega)] at h
  rw [if_neg (by omega)]
  cases h1 : readP s v with
  | inl f => rw [h1] at h; cases h
  | inr x =>
    rw [h1] at h hr
    cases h2 : readP (nl k ++ s) v' with
    | inl f => rw [h2] at hr; exact hr.elim
    | inr x' =>
      rw [h2] at hr
      have hu : UpT k x.1 x'.1 := hr.1
      have hm := UpT.many _ _ hu
      by_cases hb : 1200 < wrap64 (x.1.many : Int)
      · simp only [hb, if_true] at h
        cases h
      · simp only [hb, if_false] at h
        cases h
        refine ⟨x'.1, ?_, hu⟩
        simp only [hm, hb, if_false]

theorem NodeAt.add {A : Nat → Prop} {w w' : World} {v : Value} {t : Tree} (h : NodeAt A w v t) (ha : Add w w') : NodeAt (fun _ => True) w' v t :=
  NodeAt.keep (fun _ _ => trivial) (fun j _ hl => ha.block j hl) _ _ h
theorem Tabs.add {w w' : World} {r r' : Nat} (h : Tabs w r) (ha : Add w w') (hr : r ≤ r') : Tabs w' r' := (h.keep fun j _ hl => ha.block j hl).up hr

set_option maxRecDepth 100000 in
set_option maxHeartbeats 1000000 in
theorem pick_any (a : Int) (w : World) :
    Calls Tryz.prog 21 #[.int .i64 a, .int .i64 20] w fun e w' => (∃ K : Nat, K < 20 ∧ e = .returned (.int .i64 K)) ∧ w' = w := by
  go_enter Tryz.func21, Tryz.ntmps21
  go_wp2_with fail
  go_ret
  have hw : 0 ≤ IntKind.u64.wrap a := by
    rw [IntKind.wrap_u64]
    omega
  generalize IntKind.u64.wrap a = x at *
  have h1 := Int.tmod_nonneg 20 hw
  have h2 := Int.tmod_lt_of_pos x (show (0 : Int) < 20 by decide)
  refine ⟨⟨(x.tmod 20).toNat, by omega, ?_⟩, rfl⟩
  have e : wrap64 (x.tmod 20) = ((x.tmod 20).toNat : Int) := by unfold wrap64; omega
  rw [← e]
  rfl

/-- How 'read' comes back, in short. -/
theorem read_cases {lo : Nat} {s : ByteArray} {e : Ending} {w' : World} (h : ReadIs lo s e w') : (∃ t b, parseT s (jval (lo + 2) 1) = some t ∧ e = .returned (.tuple #[.pointer (some ⟨b, 0, none⟩), .bool true]) ∧ NodeAt (fun _ => True) w' (.pointer (some ⟨b, 0, none⟩)) t) ∨ e = .returned (.tuple #[.pointer none, .bool false]) := by
  rcases h with ⟨t, b, h1, h2, h3⟩ | ⟨_, h⟩
  · exact Or.inl ⟨t, b, h1, h2, h3.mono fun _ _ => trivial⟩
  · exact Or.inr h

set_option maxRecDepth 100000 in
set_option maxHeartbeats 8000000 in
theorem lines_any {w : World} (tabs : Tabs w w.heap.size) (s : ByteArray) (hmax : s.size ≤ 9223372036854775807) (a : Int) :
    Calls Tryz.prog 5 #[.string s, .int .i64 a] w fun e w' => e = .returned (.bool true) ∧ Add w w' := by
  have hmf : ∀ (fn : Fn) (first cap : Array Value) (w : World), (Instr.makeFunc fn first cap).run Tryz.prog w = .ok (.func fn first cap) w := fun _ _ _ _ => rfl
  have hn0 : ∀ w : World, (binOp BinOp.neq 29 .nilIface .nilIface).run Tryz.prog w = .ok (.bool false) w := fun _ => by kernel_rfl
  have HT := hide tabs
  clear tabs
  go_enter Tryz.func5, Tryz.ntmps5
  go_wp2_with fail
  refine (pick_any a _).mono ?_
  rintro e w0 ⟨⟨K, hK, rfl⟩, rfl⟩
  go_wp2_with fail
  have HA0 := hide ((Add.refl w).alloc (.cells #[.int .i64 K] 3))
  have hb0 := hnew w (.cells #[.int .i64 K] 3)
  have HB0 := hide hb0
  have hz0 : (w.alloc (.cells #[.int .i64 K] 3)).heap.size = w.heap.size + 1 := by simp
  have HT0 := hide ((unhide HT).add (unhide HA0) (show w.heap.size ≤ (w.alloc (.cells #[.int .i64 K] 3)).heap.size by omega))
  clear HT hb0 hz0
  generalize (w.alloc (.cells #[.int .i64 K] 3)) = w0 at *
  refine (read_any (unhide HT0) s hmax).mono ?_
  rintro e w1 ⟨hr, ha1⟩
  have HT1 := hide ((unhide HT0).add ha1 ha1.size)
  have HA1 := hide ((unhide HA0).tr ha1)
  have HB1 : Hid (w1.heap[w.heap.size]? = some (.cells #[.int .i64 K] 3 (0, 0))) := (ha1.block _ (Array.getElem?_eq_some_iff.1 (unhide HB0)).1).trans (unhide HB0)
  clear HT0 HA0 HB0 ha1
  rcases read_cases hr with ⟨t, b, h1, rfl, h3⟩ | rfl
  · have H1 := hide h1
    have H3 := hide h3
    clear hr h1 h3
    go_wp2_with fail
    refine (written_any (unhide HT1)).mono ?_
    rintro e w2 ⟨rfl, ha2⟩
    have HT2 := hide ((unhide HT1).add ha2 ha2.size)
    have HA2 := hide ((unhide HA1).tr ha2)
    have HB2 : Hid (w2.heap[w.heap.size]? = some (.cells #[.int .i64 K] 3 (0, 0))) := (ha2.block _ (Array.getElem?_eq_some_iff.1 (unhide HB1)).1).trans (unhide HB1)
    have H32 := hide ((unhide H3).add ha2)
    clear HT1 HA1 HB1 H3 ha2
    by_cases hbig : 2900 < s.size
    · have b1 : decide ((2900 : Int) < (s.size : Int)) = true := by simp; omega
      go_wp2_with fail
      refine (written_any (unhide HT2)).mono ?_
      rintro e w3 ⟨rfl, ha3⟩
      have HA3 := hide ((unhide HA2).tr ha3)
      clear ha3
      go_wp2_with fail
      go_ret
      exact ⟨rfl, unhide HA3⟩
    · have b1 : decide ((2900 : Int) < (s.size : Int)) = false := by simp; omega
      have hs29 : s.size ≤ 2900 := by omega
      have ck : w2.cell? ⟨w.heap.size, 0, none⟩ = some (.int .i64 K) := hcell (unhide HB2) 0
      go_wp2_with fail
      go_loopg [7, 8] 20 (fun gg m i wr => ∃ k : Nat, k ≤ K ∧ gg + k = 20 ∧ i = .int .i64 k ∧ m = .string (nl k) ∧ wr = w2)
      case atStart => exact ⟨0, Nat.zero_le _, rfl, rfl, rfl, rfl⟩
      case round =>
        obtain ⟨k, hk, hgk, rfl, rfl, rfl⟩ := hrel
        have hsz := nl_size k
        by_cases hlt : k < K
        · have b2 : decide ((k : Int) < (K : Int)) = true := by simp; omega
          have HN := hide (nl_succ k)
          have hle : (nl k).size + 1 ≤ 9223372036854775807 := by omega
          have hgt : ¬ 9223372036854775807 < (nl k).size + 1 := by omega
          go_wp2_with fail
          go_roundg (20 - (k + 1))
          case measure => omega
          case rel => exact ⟨k + 1, by omega, by omega, by go_num, by rw [← unhide HN], rfl⟩
        · obtain rfl : k = K := by omega
          have b2 : decide ((k : Int) < (k : Int)) = false := by simp
          have hgt : ¬ 9223372036854775807 < (nl k).size + s.size := by omega
          go_wp2_with fail
          refine (parse_any (unhide HT2) (nl k ++ s) (by rw [ByteArray.size_append]; omega)).mono ?_
          rintro e w3 ⟨⟨vn, ve, rfl, hp⟩, ha3⟩
          obtain ⟨t', ht', hup⟩ := parseT_sh (v' := jval (wr.heap.size + 2) 1) (show k + s.size ≤ 3000 by omega) (unhide H1)
          rcases hp with ⟨t2, b2, q1, rfl, q3, rfl⟩ | ⟨q1, _⟩
          · rw [ht'] at q1
            cases q1
            have HN3 := hide ((unhide H32).add ha3)
            have HM3 : Hid (NodeAt (fun _ => True) w3 (.pointer (some ⟨b2, 0, none⟩)) t') := NodeAt.mono q3 fun _ _ => trivial
            have HUP := hide hup
            have HA3 := hide ((unhide HA2).tr ha3)
            have HK3 : Hid (w3.cell? ⟨w.heap.size, 0, none⟩ = some (.int .i64 k)) := ha3.cellk ck
            clear ha3 q3 hup ht' ck H32 H1 HT2 HA2 HB2
            go_wp2_with fail
            refine (flat_any t t' w3 _ _ (unhide HUP) (unhide HN3) (unhide HM3)).mono ?_
            rintro e w4 ⟨rfl, m4, hw4⟩
            have HN4 : Hid (NodeAt (fun _ => True) w4 (.pointer (some ⟨b, 0, none⟩)) t) := by
              show NodeAt _ _ _ _
              rw [hw4]
              exact (unhide HN3).drewN m4
            have HM4 : Hid (NodeAt (fun _ => True) w4 (.pointer (some ⟨b2, 0, none⟩)) t') := by
              show NodeAt _ _ _ _
              rw [hw4]
              exact (unhide HM3).drewN m4
            have HA4 : Hid (Add w w4) := by
              show Add _ _
              rw [hw4]
              exact (unhide HA3).drewN m4
            have HK4 : Hid (w4.cell? ⟨w.heap.size, 0, none⟩ = some (.int .i64 k)) := by
              show _ = _
              rw [hw4]
              exact unhide HK3
            clear HN3 HM3 HA3 HK3 hw4
            go_wp2_with fail
            have ha5 := (Add.refl w4).alloc (.cells #[.func (.func 22) #[] #[.pointer (some ⟨w.heap.size, 0, none⟩), .pointer (some ⟨w4.heap.size, 0, none⟩)]] 33)
            refine (walk_any (k := k) (by omega) w.heap.size w4.heap.size t t' _ _ _ (unhide HUP) ((unhide HN4).add ha5) ((unhide HM4).add ha5) (ha5.cellk (unhide HK4)) (hcell (hnew _ _) 0)).mono ?_
            rintro e w6 ⟨rfl, m6, rfl⟩
            have HA6 := hide (((unhide HA4).tr ha5).drewN m6)
            clear ha5
            go_wp2_with fail
            go_ret
            exact ⟨rfl, unhide HA6⟩
          · rw [ht'] at q1
            cases q1
  · clear hr
    go_wp2_with fail
    refine (written_any (unhide HT1)).mono ?_
    rintro e w2 ⟨rfl, ha2⟩
    have HT2 := hide ((unhide HT1).add ha2 ha2.size)
    have HA2 := hide ((unhide HA1).tr ha2)
    clear HT1 HA1 HB1 ha2
    go_wp2_with fail
    refine (written_any (unhide HT2)).mono ?_
    rintro e w3 ⟨rfl, ha3⟩
    have HA3 := hide ((unhide HA2).tr ha3)
    clear ha3
    go_wp2_with fail
    go_ret
    exact ⟨rfl, unhide HA3⟩
end Go.Proofs.YtcpjefdbgjlnnaaGreatDoor
