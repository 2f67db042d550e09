/-
  The writer's builder.
  The writer at small programs.
  The writer at a small program.
  The writer at a small program: its statement, its lines.
-/
import Derived.Test.YtcpjefdbgjlnnaaGreatDoorM18
import Derived.Lib.Builder
import Derived.Lib.AppendStr
import Derived.Lib.UnsafeStr
import Derived.Laws.Externs
namespace Go.Proofs.YtcpjefdbgjlnnaaGreatDoor
open Go.RowKit

theorem infoBuilder : (Tryz.prog.info? 141).map (·.size) = some 2 := by kernel_rfl
theorem infoByte : (Tryz.prog.info? 5).map (fun i => (i.zero, i.size, i.bytes)) = some (some (.int .u8 0), 1, 1) := by kernel_rfl

set_option maxHeartbeats 1000000 in
set_option maxRecDepth 100000 in
theorem check_used (b : Nat) (w : World) (h0 : w.cell? ⟨b, 0, none⟩ = some (.pointer (some ⟨b, 0, none⟩))) :
    Calls Tryz.prog 131 #[.pointer (some ⟨b, 0, none⟩)] w fun e w' => e = .returned (.tuple #[]) ∧ w' = w := by
  obtain ⟨j, hj, _⟩ := Option.map_eq_some_iff.1 infoBuilder
  go_enter Tryz.func131, Tryz.ntmps131
  go_wp2
  rw [Lib.run_neq_ptr_same w _ Tryz.underlying138 hj]
  go_wp2
  go_end0
  exact ⟨rfl, rfl⟩

set_option maxHeartbeats 1000000 in
set_option maxRecDepth 100000 in
theorem check_fresh (b : Nat) (w : World) (h0 : w.cell? ⟨b, 0, none⟩ = some (.pointer none)) (hsh : w.shape? b = some (141, 2)) (hfz : w.frozen? ⟨b, 0, none⟩ = false) :
    Calls Tryz.prog 131 #[.pointer (some ⟨b, 0, none⟩)] w fun e w' => e = .returned (.tuple #[]) ∧ w' = w.setCell ⟨b, 0, none⟩ (.pointer (some ⟨b, 0, none⟩)) := by
  obtain ⟨j, hj, hjs⟩ := Option.map_eq_some_iff.1 infoBuilder
  go_enter Tryz.func131, Tryz.ntmps131
  go_wp2
  rw [Lib.run_to_unsafe w ⟨b, 0, none⟩ Tryz.underlying138 Tryz.underlying149 hj (by rw [hjs]; decide) hsh (Nat.zero_lt_succ 1)]
  simp only [Result.andThen]
  rw [Oper.upon_value]
  go_wp2
  rw [run_callFunc_extern Tryz.func193 (by kernel_rfl) (by kernel_rfl) (by kernel_rfl) (e := Extern.AbiNoEscape.same) (by kernel_rfl)]
  rw [Lib.run_noEscape]
  simp only [Result.andThen]
  rw [Oper.upon_value]
  go_wp2
  rw [Lib.run_from_unsafe w ⟨b, 0, none⟩ Tryz.underlying149 Tryz.underlying138 hj hsh (by kernel_rfl)]
  simp only [Result.andThen]
  rw [Oper.upon_value]
  go_wp2
  go_end0
  exact ⟨rfl, rfl⟩

/-- A builder is checked: its bytes are as they were. -/
theorem check_any (B b : Nat) (bs : List Value) (w : World) (h : Lib.IsBuilder 141 5 B b bs w) :
    Calls Tryz.prog 131 #[.pointer (some ⟨b, 0, none⟩)] w fun e w' => e = .returned (.tuple #[]) ∧ (Lib.BuilderAt 141 5 B b (.pointer (some ⟨b, 0, none⟩)) bs w' ∧ Below B w w') := by
  rcases h with h | h
  · refine (check_fresh b w h.cell0 h.shape h.frozen0).mono ?_
    rintro e w' ⟨rfl, rfl⟩
    exact ⟨rfl, h.used _, (Below.refl B w).setCell (p := ⟨b, 0, none⟩) h.1 _⟩
  · refine (check_used b w h.cell0).mono ?_
    rintro e w' ⟨rfl, rfl⟩
    exact ⟨rfl, h, Below.refl B _⟩

set_option maxHeartbeats 1000000 in
set_option maxRecDepth 100000 in
theorem writeString_any (B b : Nat) (bs : List Value) (s : ByteArray) (w : World) (h : Lib.IsBuilder 141 5 B b bs w) (hlen : bs.length + s.size ≤ 140737488355328) (hBw : B ≤ w.heap.size) :
    Calls Tryz.prog 82 #[.pointer (some ⟨b, 0, none⟩), .string s] w fun e w' => e = .returned (.tuple #[.int .i64 s.size, .nilIface]) ∧ (Lib.BuilderAt 141 5 B b (.pointer (some ⟨b, 0, none⟩)) (bs ++ Lib.strCells s) w' ∧ Below B w w') := by
  obtain ⟨i0, hi, hz0, hz1, hz2⟩ := info_parts infoByte
  go_enter Tryz.func82, Tryz.ntmps82
  go_wp2_with fail
  refine (check_any B b bs _ h).mono ?_
  rintro e w1 ⟨rfl, h1, hb1⟩
  obtain ⟨hB, v, hbk, hown, hne⟩ := h1
  have c0 : w1.cell? ⟨b, 0, none⟩ = some (.pointer (some ⟨b, 0, none⟩)) := hcell hbk 0
  have c1 : w1.cell? ⟨b, 1, none⟩ = some v := hcell hbk 1
  go_wp2_with (at_builtin; refine Lib.wpList_append_own_string _ rfl _ _ 139 9 rfl B 5 i0 Tryz.underlying139 Tryz.underlying9 hi hz0 hz1 hz2 _ _ _ rfl hown s rfl ?c3 ?c4 ?c5 ?_)
  case c3 => unfold maxLen; omega
  case c4 => omega
  case c5 => have := hb1.size; omega
  intro v' w2 hown' hgrow _
  have hlt : b < w1.heap.size := (Array.getElem?_eq_some_iff.1 hbk).1
  have hb2 : w2.heap[b]? = some (.cells #[.pointer (some ⟨b, 0, none⟩), v] 141 (0, 0)) := (hgrow.block b hlt (fun e => hne e.symm)).trans hbk
  have d0 : w2.cell? ⟨b, 0, none⟩ = some (.pointer (some ⟨b, 0, none⟩)) := hcell hb2 0
  have d1 : w2.cell? ⟨b, 1, none⟩ = some v := hcell hb2 1
  have f1 := hfroz hb2 1
  obtain ⟨ao, n', cap, rfl⟩ : ∃ ao n' cap, v' = .slice ao n' cap := by
    rcases hown'.2 with ⟨hv, _⟩ | ⟨g, cap, cur, hv, _⟩
    · exact ⟨_, _, _, hv⟩
    · exact ⟨_, _, _, hv⟩
  have HG := hide hgrow
  have HO := hide hown'
  have HB1 := hide hb1
  have HB2 := hide hb2
  have HOW := hide hown
  clear hgrow hown' hb1 hb2 hown c0 c1
  go_wp2_with fail
  go_ret2
  refine ⟨rfl, ?_, ?_⟩
  · exact Lib.BuilderAt.put (T := 141) (e := 5) hB (unhide HB2) (bs' := bs ++ Lib.strCells s) (by simpa [Lib.strCells_length] using unhide HO) (by decide)
  · exact ((unhide HB1).grown (unhide HG) (by have := (unhide HB1).size; omega) (fun k hk => ((unhide HOW).lt k hk).1)).setCell (p := ⟨b, 1, none⟩) hB _
end Go.Proofs.YtcpjefdbgjlnnaaGreatDoor

namespace Go.Proofs.YtcpjefdbgjlnnaaGreatDoor
open Go.RowKit

theorem Add.cellk {w w' : World} (h : Add w w') {p : Addr} {v : Value} (hc : w.cell? p = some v) : w'.cell? p = some v := by
  rw [World.cell?_of_block (h.block p.block (World.block_lt_of_cell? w _ hc))]
  exact hc
theorem Add.tr {a b c : World} (h : Add a b) (k : Add b c) : Add a c :=
  ⟨k.os.trans h.os, k.tape.trans h.tape, k.output.trans h.output, Nat.le_trans h.size k.size, fun i hi => (k.block i (Nat.lt_of_lt_of_le hi h.size)).trans (h.block i hi)⟩
/-- The table of signs is there. -/
def SG (w : World) : Prop := ∃ tt fr, w.heap[5]? = some (.cells signCells tt fr)
theorem SG.add {w w' : World} (h : SG w) (ha : Add w w') : SG w' := by
  obtain ⟨tt, fr, h⟩ := h
  exact ⟨tt, fr, (ha.block _ (Array.getElem?_eq_some_iff.1 h).1).trans h⟩

set_option maxRecDepth 100000 in
set_option maxHeartbeats 1000000 in
theorem strength_any {w : World} (hg : SG w) (kd : Nat) :
    Calls Tryz.prog 233 #[.int .i64 kd] w fun e w' => e = .returned (.int .i64 (strengthP kd)) ∧ Add w w' := by
  obtain ⟨tt, fr, hg⟩ := hg
  have HS := hide (show strengthP kd = if (signOfP kd).2 = true then (signOfP kd).1.2.2 else if kd = 40 ∨ kd = 41 then 7 else 8 from rfl)
  have HC := hide (signOf_any hg kd)
  clear hg
  unfold signV at HC
  generalize signOfP kd = z at *
  obtain ⟨⟨m, k2, st⟩, b⟩ := z
  cases b with
  | true =>
    have HE : Hid (strengthP kd = st) := unhide HS
    clear HS
    go_enter Tryz.func233, Tryz.ntmps233
    go_wp2_with fail
    refine (unhide HC).mono ?_
    rintro e w1 ⟨rfl, ha⟩
    have HA := hide ha
    clear ha
    go_wp2_with fail
    go_ret
    rw [unhide HE]
    exact ⟨rfl, (unhide HA).alloc _⟩
  | false =>
    have HE : Hid (strengthP kd = if kd = 40 ∨ kd = 41 then 7 else 8) := unhide HS
    clear HS
    by_cases h0 : kd = 40 ∨ kd = 41
    · have HE1 := hide ((unhide HE).trans (if_pos h0))
      clear HE
      rcases h0 with rfl | rfl
      · go_enter Tryz.func233, Tryz.ntmps233
        go_wp2_with fail
        refine (unhide HC).mono ?_
        rintro e w1 ⟨rfl, ha⟩
        have HA := hide ha
        clear ha
        go_wp2_with fail
        go_ret
        rw [unhide HE1]
        exact ⟨rfl, (unhide HA).alloc _⟩
      · go_enter Tryz.func233, Tryz.ntmps233
        go_wp2_with fail
        refine (unhide HC).mono ?_
        rintro e w1 ⟨rfl, ha⟩
        have HA := hide ha
        clear ha
        go_wp2_with fail
        go_ret
        rw [unhide HE1]
        exact ⟨rfl, (unhide HA).alloc _⟩
    · have HE1 := hide ((unhide HE).trans (if_neg h0))
      have b0 : ((kd : Int) == 40) = false := by rw [beq_eq_false_iff_ne]; omega
      have b1 : ((kd : Int) == 41) = false := by rw [beq_eq_false_iff_ne]; omega
      clear HE h0
      go_enter Tryz.func233, Tryz.ntmps233
      go_wp2_with fail
      refine (unhide HC).mono ?_
      rintro e w1 ⟨rfl, ha⟩
      have HA := hide ha
      clear ha
      go_wp2_with fail
      go_ret
      rw [unhide HE1]
      exact ⟨rfl, (unhide HA).alloc _⟩

set_option maxRecDepth 100000 in
set_option maxHeartbeats 1000000 in
theorem ahead_zero (w : World) :
    Calls Tryz.prog 83 #[.agg #[.int .i64 0]] w fun e w' => e = .returned (.string ⟨#[]⟩) ∧ Add w w' := by
  go_enter Tryz.func83, Tryz.ntmps83
  go_wp2_with fail
  refine (Tryz.strings_Repeat_zero _ _).mono ?_
  rintro e w1 ⟨rfl, rfl⟩
  go_wp2_with fail
  go_ret
  exact ⟨rfl, (Add.refl w).alloc _⟩

set_option maxRecDepth 100000 in
set_option maxHeartbeats 1000000 in
theorem format_in (n : Nat) (h : n < 100) (w : World) :
    Calls Tryz.prog 199 #[.int .u64 n, .int .i64 10] w fun e w' => e = .returned (.string ⟨(Lib.decDigits n).toArray⟩) ∧ w' = w := by
  have h1 : (n : Int) < 100 := by omega
  have hb : decide ((n : Int) < 100) = true := by simp; omega
  have HS := hide (Tryz.internal_strconv_small n h w)
  go_enter Tryz.func199, Tryz.ntmps199
  go_wp2_with fail
  refine (unhide HS).mono ?_
  rintro e w1 ⟨rfl, rfl⟩
  go_wp2_with fail
  go_ret
  exact ⟨rfl, rfl⟩
set_option maxRecDepth 100000 in
set_option maxHeartbeats 1000000 in
theorem format_small (n : Nat) (h : n < 100) (w : World) :
    Calls Tryz.prog 144 #[.int .u64 n, .int .i64 10] w fun e w' => e = .returned (.string ⟨(Lib.decDigits n).toArray⟩) ∧ w' = w := by
  have HS := hide (format_in n h w)
  go_enter Tryz.func144, Tryz.ntmps144
  go_wp2_with fail
  refine (unhide HS).mono ?_
  rintro e w1 ⟨rfl, rfl⟩
  go_wp2_with fail
  go_ret
  exact ⟨rfl, rfl⟩

/-- The digits of a number, as a text. -/
def digits (n : Nat) : ByteArray := ⟨(Lib.decDigits n).toArray⟩
/-- A number in memory. -/
structure IntAt (w : World) (b n : Nat) : Prop where
  c0 : w.cell? ⟨b, 0, none⟩ = some (.int .i64 18)
  c3 : w.cell? ⟨b, 3, none⟩ = some (.int .i64 n)
theorem IntAt.add {w w' : World} {b n : Nat} (h : IntAt w b n) (ha : Add w w') : IntAt w' b n := ⟨ha.cellk h.c0, ha.cellk h.c3⟩

set_option maxRecDepth 100000 in
set_option maxHeartbeats 1000000 in
theorem simple_int (d n b : Nat) (hn : n < 100) (w : World) (h : IntAt w b n) :
    Calls Tryz.prog 255 #[.agg #[.int .i64 d], .pointer (some ⟨b, 0, none⟩)] w fun e w' => e = .returned (.string (digits n)) ∧ Add w w' := by
  obtain ⟨c0, c3⟩ := h
  have e0 : ∀ o, (w.alloc o).cell? ⟨b, 0, none⟩ = some (.int .i64 18) := fun o => ((Add.refl w).alloc o).cellk c0
  have e3 : ∀ o, (w.alloc o).cell? ⟨b, 3, none⟩ = some (.int .i64 n) := fun o => ((Add.refl w).alloc o).cellk c3
  clear c0 c3
  have hn1 : (n : Int) < 100 := by omega
  go_enter Tryz.func255, Tryz.ntmps255
  go_wp2_with fail
  refine (format_small n hn _).mono ?_
  rintro e w1 ⟨rfl, rfl⟩
  go_wp2_with fail
  go_ret
  exact ⟨rfl, (Add.refl w).alloc _⟩

theorem sign_int : signOfP 18 = ((noText, 0, 0), false) := by rfl
theorem sign_add : signOfP 35 = ((⟨#[43]⟩, 35, 5), true) := by rfl
theorem strength_int : strengthP 18 = 8 := by rfl
theorem strength_add : strengthP 35 = 5 := by rfl

set_option maxRecDepth 100000 in
set_option maxHeartbeats 2000000 in
theorem bare_int (d n b : Nat) (hn : n < 100) (w : World) (hg : SG w) (h : IntAt w b n) :
    Calls Tryz.prog 234 #[.agg #[.int .i64 d], .pointer (some ⟨b, 0, none⟩)] w fun e w' => e = .returned (.string (digits n)) ∧ Add w w' := by
  have HI := hide h
  have HG := hide hg
  have e0 : ∀ o, (w.alloc o).cell? ⟨b, 0, none⟩ = some (.int .i64 18) := fun o => ((Add.refl w).alloc o).cellk h.c0
  clear h hg
  go_enter Tryz.func234, Tryz.ntmps234
  go_wp2_with fail
  obtain ⟨tt, fr, hg2⟩ := (unhide HG).add ((Add.refl w).alloc (.cells #[.int .i64 d] 91))
  have hs := signOf_any hg2 18
  rw [sign_int] at hs
  refine hs.mono ?_
  rintro e w1 ⟨rfl, ha⟩
  have ha1 := (((Add.refl w).alloc (.cells #[.int .i64 d] 91)).tr ha)
  unfold signV
  have k0 : w1.cell? ⟨b, 0, none⟩ = some (.int .i64 18) := ha1.cellk (unhide HI).c0
  have ka : ∀ o, (w1.alloc o).cell? ⟨b, 0, none⟩ = some (.int .i64 18) := fun o => (ha1.alloc o).cellk (unhide HI).c0
  have kb : w1.cell? ⟨w.heap.size, 0, none⟩ = some (.int .i64 d) := ha.cellk (hcell (hnew _ _) 0)
  have kc : ∀ o, (w1.alloc o).cell? ⟨w.heap.size, 0, none⟩ = some (.int .i64 d) := fun o => ((Add.refl w1).alloc o).cellk kb
  have HA := hide ha1
  clear ha ha1 hs hg2 e0
  go_wp2_with fail
  refine (simple_int d n b hn _ ((unhide HI).add ((unhide HA).alloc _))).mono ?_
  rintro e w2 ⟨rfl, ha2⟩
  have HA2 := hide (((unhide HA).alloc _).tr ha2)
  clear ha2
  go_wp2_with fail
  go_ret
  exact ⟨rfl, unhide HA2⟩

set_option maxRecDepth 100000 in
set_option maxHeartbeats 2000000 in
theorem atLeast_int (d l n b : Nat) (hl : l ≤ 8) (hn : n < 100) (w : World) (hg : SG w) (h : IntAt w b n) :
    Calls Tryz.prog 198 #[.agg #[.int .i64 d], .int .i64 l, .pointer (some ⟨b, 0, none⟩)] w fun e w' => e = .returned (.string (digits n)) ∧ Add w w' := by
  have HI := hide h
  have HG := hide hg
  have e0 : ∀ o, (w.alloc o).cell? ⟨b, 0, none⟩ = some (.int .i64 18) := fun o => ((Add.refl w).alloc o).cellk h.c0
  have hl2 : decide ((8 : Int) < (l : Int)) = false := by simp; omega
  clear h hg
  go_enter Tryz.func198, Tryz.ntmps198
  go_wp2_with fail
  have hs := strength_any ((unhide HG).add ((Add.refl w).alloc (.cells #[.int .i64 d] 91))) 18
  rw [strength_int] at hs
  refine hs.mono ?_
  rintro e w1 ⟨rfl, ha⟩
  have ha1 := (((Add.refl w).alloc (.cells #[.int .i64 d] 91)).tr ha)
  have kb : w1.cell? ⟨w.heap.size, 0, none⟩ = some (.int .i64 d) := ha.cellk (hcell (hnew _ _) 0)
  have HA := hide ha1
  clear ha ha1 hs e0
  go_wp2_with fail
  refine (bare_int d n b hn _ ((unhide HG).add (unhide HA)) ((unhide HI).add (unhide HA))).mono ?_
  rintro e w2 ⟨rfl, ha2⟩
  have HA2 := hide ((unhide HA).tr ha2)
  clear ha2
  go_wp2_with fail
  go_ret
  exact ⟨rfl, unhide HA2⟩
end Go.Proofs.YtcpjefdbgjlnnaaGreatDoor

namespace Go.Proofs.YtcpjefdbgjlnnaaGreatDoor
open Go.RowKit

/-- A sum of two numbers in memory. -/
structure SumAt (w : World) (b g cap k0 k1 n0 n1 : Nat) : Prop where
  c0 : w.cell? ⟨b, 0, none⟩ = some (.int .i64 35)
  c5 : w.cell? ⟨b, 5, none⟩ = some (.slice (some ⟨g, 0, none⟩) 2 cap)
  g0 : w.cell? ⟨g, 0, none⟩ = some (.pointer (some ⟨k0, 0, none⟩))
  g1 : w.cell? ⟨g, 1, none⟩ = some (.pointer (some ⟨k1, 0, none⟩))
  i0 : IntAt w k0 n0
  i1 : IntAt w k1 n1
theorem SumAt.add {w w' : World} {b g cap k0 k1 n0 n1 : Nat} (h : SumAt w b g cap k0 k1 n0 n1) (ha : Add w w') : SumAt w' b g cap k0 k1 n0 n1 :=
  ⟨ha.cellk h.c0, ha.cellk h.c5, ha.cellk h.g0, ha.cellk h.g1, h.i0.add ha, h.i1.add ha⟩
theorem digits_one : digits 1 = ⟨#[49]⟩ := by simp [digits, Lib.decDigits]
theorem digits_two : digits 2 = ⟨#[50]⟩ := by simp [digits, Lib.decDigits]

theorem sum_adds {wb w1 : World} {bw bs b g cap k0 k1 : Nat} {d : Nat} (h : w1.cell? ⟨bw, 0, none⟩ = some (.int .i64 d) ∧ w1.cell? ⟨bs, 0, none⟩ = some (.string ⟨#[43]⟩) ∧ w1.cell? ⟨bs, 2, none⟩ = some (.int .i64 5) ∧ w1.cell? ⟨b, 5, none⟩ = some (.slice (some ⟨g, 0, none⟩) 2 cap) ∧ w1.cell? ⟨g, 0, none⟩ = some (.pointer (some ⟨k0, 0, none⟩)) ∧ w1.cell? ⟨g, 1, none⟩ = some (.pointer (some ⟨k1, 0, none⟩)) ∧ Hid (Add wb w1)) : Add wb w1 := unhide h.2.2.2.2.2.2
theorem sum_keep {wb w1 w2 : World} {bw bs b g cap k0 k1 : Nat} {d : Nat}
    (h : w1.cell? ⟨bw, 0, none⟩ = some (.int .i64 d) ∧ w1.cell? ⟨bs, 0, none⟩ = some (.string ⟨#[43]⟩) ∧ w1.cell? ⟨bs, 2, none⟩ = some (.int .i64 5) ∧ w1.cell? ⟨b, 5, none⟩ = some (.slice (some ⟨g, 0, none⟩) 2 cap) ∧ w1.cell? ⟨g, 0, none⟩ = some (.pointer (some ⟨k0, 0, none⟩)) ∧ w1.cell? ⟨g, 1, none⟩ = some (.pointer (some ⟨k1, 0, none⟩)) ∧ Hid (Add wb w1)) (ha : Add w1 w2) :
    w2.cell? ⟨bw, 0, none⟩ = some (.int .i64 d) ∧ w2.cell? ⟨bs, 0, none⟩ = some (.string ⟨#[43]⟩) ∧ w2.cell? ⟨bs, 2, none⟩ = some (.int .i64 5) ∧ w2.cell? ⟨b, 5, none⟩ = some (.slice (some ⟨g, 0, none⟩) 2 cap) ∧ w2.cell? ⟨g, 0, none⟩ = some (.pointer (some ⟨k0, 0, none⟩)) ∧ w2.cell? ⟨g, 1, none⟩ = some (.pointer (some ⟨k1, 0, none⟩)) ∧ Hid (Add wb w2) :=
  ⟨ha.cellk h.1, ha.cellk h.2.1, ha.cellk h.2.2.1, ha.cellk h.2.2.2.1, ha.cellk h.2.2.2.2.1, ha.cellk h.2.2.2.2.2.1, (unhide h.2.2.2.2.2.2).tr ha⟩

set_option maxRecDepth 100000 in
set_option maxHeartbeats 8000000 in
theorem bare_sum {d b g cap k0 k1 : Nat} (w : World) (hg : SG w) (h : SumAt w b g cap k0 k1 1 2) :
    Calls Tryz.prog 234 #[.agg #[.int .i64 d], .pointer (some ⟨b, 0, none⟩)] w fun e w' => e = .returned (.string ⟨#[49, 32, 43, 32, 50]⟩) ∧ Add w w' := by
  have HI := hide h
  have HG := hide hg
  have e0 : ∀ o, (w.alloc o).cell? ⟨b, 0, none⟩ = some (.int .i64 35) := fun o => ((Add.refl w).alloc o).cellk h.c0
  clear h hg
  go_enter Tryz.func234, Tryz.ntmps234
  go_wp2_with fail
  obtain ⟨tt, fr, hg2⟩ := (unhide HG).add ((Add.refl w).alloc (.cells #[.int .i64 d] 91))
  have hs := signOf_any hg2 35
  rw [sign_add] at hs
  refine hs.mono ?_
  rintro e w1 ⟨rfl, ha⟩
  have ha1 := (((Add.refl w).alloc (.cells #[.int .i64 d] 91)).tr ha)
  have kb : w1.cell? ⟨w.heap.size, 0, none⟩ = some (.int .i64 d) := ha.cellk (hcell (hnew _ _) 0)
  have HA := hide ha1
  have HKB := hide kb
  clear ha ha1 hs hg2 e0 kb
  unfold signV
  go_wp2_with fail
  have q1 : (w1.alloc (.cells #[.string ⟨#[43]⟩, .int .i64 35, .int .i64 5] 226)).cell? ⟨w.heap.size, 0, none⟩ = some (.int .i64 d) := ((Add.refl w1).alloc _).cellk (unhide HKB)
  have q2 : (w1.alloc (.cells #[.string ⟨#[43]⟩, .int .i64 35, .int .i64 5] 226)).cell? ⟨w1.heap.size, 0, none⟩ = some (.string ⟨#[43]⟩) := hcell (hnew _ _) 0
  have q3 : (w1.alloc (.cells #[.string ⟨#[43]⟩, .int .i64 35, .int .i64 5] 226)).cell? ⟨w1.heap.size, 2, none⟩ = some (.int .i64 5) := hcell (hnew _ _) 2
  have hI := (unhide HI).add ((unhide HA).alloc (.cells #[.string ⟨#[43]⟩, .int .i64 35, .int .i64 5] 226))
  have q4 := hI.c5
  have q5 := hI.g0
  have q6 := hI.g1
  have HA2 := hide ((unhide HA).alloc (.cells #[.string ⟨#[43]⟩, .int .i64 35, .int .i64 5] 226))
  clear hI HA HKB
  generalize (w1.alloc (.cells #[.string ⟨#[43]⟩, .int .i64 35, .int .i64 5] 226)) = wb at *
  have H0 : Hid (∀ w', (w'.cell? ⟨w.heap.size, 0, none⟩ = some (.int .i64 d) ∧ w'.cell? ⟨w1.heap.size, 0, none⟩ = some (.string ⟨#[43]⟩) ∧ w'.cell? ⟨w1.heap.size, 2, none⟩ = some (.int .i64 5) ∧ w'.cell? ⟨b, 5, none⟩ = some (.slice (some ⟨g, 0, none⟩) 2 cap) ∧ w'.cell? ⟨g, 0, none⟩ = some (.pointer (some ⟨k0, 0, none⟩)) ∧ w'.cell? ⟨g, 1, none⟩ = some (.pointer (some ⟨k1, 0, none⟩)) ∧ Hid (Add wb w')) → Calls Tryz.prog 198 #[.agg #[.int .i64 d], .int .i64 5, .pointer (some ⟨k0, 0, none⟩)] w' fun e w2 => e = .returned (.string ⟨#[49]⟩) ∧ Add w' w2) := fun w' hS => by
    have hA := (unhide HA2).tr (unhide hS.2.2.2.2.2.2)
    have := atLeast_int d 5 1 k0 (by decide) (by decide) w' ((unhide HG).add hA) ((unhide HI).i0.add hA)
    rw [digits_one] at this
    exact this
  have H1 : Hid (∀ w', (w'.cell? ⟨w.heap.size, 0, none⟩ = some (.int .i64 d) ∧ w'.cell? ⟨w1.heap.size, 0, none⟩ = some (.string ⟨#[43]⟩) ∧ w'.cell? ⟨w1.heap.size, 2, none⟩ = some (.int .i64 5) ∧ w'.cell? ⟨b, 5, none⟩ = some (.slice (some ⟨g, 0, none⟩) 2 cap) ∧ w'.cell? ⟨g, 0, none⟩ = some (.pointer (some ⟨k0, 0, none⟩)) ∧ w'.cell? ⟨g, 1, none⟩ = some (.pointer (some ⟨k1, 0, none⟩)) ∧ Hid (Add wb w')) → Calls Tryz.prog 198 #[.agg #[.int .i64 d], .int .i64 6, .pointer (some ⟨k1, 0, none⟩)] w' fun e w2 => e = .returned (.string ⟨#[50]⟩) ∧ Add w' w2) := fun w' hS => by
    have hA := (unhide HA2).tr (unhide hS.2.2.2.2.2.2)
    have := atLeast_int d 6 2 k1 (by decide) (by decide) w' ((unhide HG).add hA) ((unhide HI).i1.add hA)
    rw [digits_two] at this
    exact this
  have HWB := hide (Add.refl wb)
  go_region_held3 (fun w' => w'.cell? ⟨w.heap.size, 0, none⟩ = some (.int .i64 d) ∧ w'.cell? ⟨w1.heap.size, 0, none⟩ = some (.string ⟨#[43]⟩) ∧ w'.cell? ⟨w1.heap.size, 2, none⟩ = some (.int .i64 5) ∧ w'.cell? ⟨b, 5, none⟩ = some (.slice (some ⟨g, 0, none⟩) 2 cap) ∧ w'.cell? ⟨g, 0, none⟩ = some (.pointer (some ⟨k0, 0, none⟩)) ∧ w'.cell? ⟨g, 1, none⟩ = some (.pointer (some ⟨k1, 0, none⟩)) ∧ Hid (Add wb w')) ((first | exact ⟨q1, q2, q3, q4, q5, q6, (unhide HWB).drew⟩ | exact sum_keep (by assumption) ha2)) ((first | (go_at_call_of 198 k0; refine (unhide H0 _ (by assumption)).mono ?_; rintro e w2 ⟨rfl, ha2⟩) | (go_at_call_of 198 k1; refine (unhide H1 _ (by assumption)).mono ?_; rintro e w2 ⟨rfl, ha2⟩)))
  all_goals
    go_wp2_with fail
    go_ret
    exact ⟨by rfl, (unhide HA2).tr (sum_adds (by assumption))⟩

set_option maxRecDepth 100000 in
set_option maxHeartbeats 2000000 in
theorem atLeast_sum {d l b g cap k0 k1 : Nat} (hl : l ≤ 5) (w : World) (hg : SG w) (h : SumAt w b g cap k0 k1 1 2) :
    Calls Tryz.prog 198 #[.agg #[.int .i64 d], .int .i64 l, .pointer (some ⟨b, 0, none⟩)] w fun e w' => e = .returned (.string ⟨#[49, 32, 43, 32, 50]⟩) ∧ Add w w' := by
  have HI := hide h
  have HG := hide hg
  have e0 : ∀ o, (w.alloc o).cell? ⟨b, 0, none⟩ = some (.int .i64 35) := fun o => ((Add.refl w).alloc o).cellk h.c0
  have hl2 : decide ((5 : Int) < (l : Int)) = false := by simp; omega
  clear h hg
  go_enter Tryz.func198, Tryz.ntmps198
  go_wp2_with fail
  have hs := strength_any ((unhide HG).add ((Add.refl w).alloc (.cells #[.int .i64 d] 91))) 35
  rw [strength_add] at hs
  refine hs.mono ?_
  rintro e w1 ⟨rfl, ha⟩
  have ha1 := (((Add.refl w).alloc (.cells #[.int .i64 d] 91)).tr ha)
  have kb : w1.cell? ⟨w.heap.size, 0, none⟩ = some (.int .i64 d) := ha.cellk (hcell (hnew _ _) 0)
  have HA := hide ha1
  clear ha ha1 hs e0
  go_wp2_with fail
  refine (bare_sum _ ((unhide HG).add (unhide HA)) ((unhide HI).add (unhide HA))).mono ?_
  rintro e w2 ⟨rfl, ha2⟩
  have HA2 := hide ((unhide HA).tr ha2)
  clear ha2
  go_wp2_with fail
  go_ret
  exact ⟨rfl, unhide HA2⟩
end Go.Proofs.YtcpjefdbgjlnnaaGreatDoor

namespace Go.Proofs.YtcpjefdbgjlnnaaGreatDoor
open Go.RowKit

set_option maxRecDepth 100000 in
set_option maxHeartbeats 2000000 in
theorem value_sum {d b g cap k0 k1 : Nat} (w : World) (hg : SG w) (h : SumAt w b g cap k0 k1 1 2) :
    Calls Tryz.prog 136 #[.agg #[.int .i64 d], .pointer (some ⟨b, 0, none⟩)] w fun e w' => e = .returned (.string ⟨#[49, 32, 43, 32, 50]⟩) ∧ Add w w' := by
  have HI := hide h
  have HG := hide hg
  clear h hg
  go_enter Tryz.func136, Tryz.ntmps136
  go_wp2_with fail
  have ha := (Add.refl w).alloc (.cells #[.int .i64 d] 91)
  refine (atLeast_sum (d := d) (l := 1) (by decide) _ ((unhide HG).add ha) ((unhide HI).add ha)).mono ?_
  rintro e w1 ⟨rfl, ha1⟩
  have HA := hide (ha.tr ha1)
  clear ha ha1
  go_wp2_with fail
  go_ret
  exact ⟨rfl, unhide HA⟩

/-- A statement that prints a sum, in memory. -/
structure PrintAt (w : World) (b g cap k : Nat) (gs caps k0 k1 : Nat) : Prop where
  c0 : w.cell? ⟨b, 0, none⟩ = some (.int .i64 16)
  c5 : w.cell? ⟨b, 5, none⟩ = some (.slice (some ⟨g, 0, none⟩) 1 cap)
  g0 : w.cell? ⟨g, 0, none⟩ = some (.pointer (some ⟨k, 0, none⟩))
  s : SumAt w k gs caps k0 k1 1 2
theorem PrintAt.add {w w' : World} {b g cap k gs caps k0 k1 : Nat} (h : PrintAt w b g cap k gs caps k0 k1) (ha : Add w w') : PrintAt w' b g cap k gs caps k0 k1 :=
  ⟨ha.cellk h.c0, ha.cellk h.c5, ha.cellk h.g0, h.s.add ha⟩
theorem print_adds {wb w1 : World} {bw b g cap k : Nat} {d : Nat} (h : w1.cell? ⟨bw, 0, none⟩ = some (.int .i64 d) ∧ w1.cell? ⟨b, 5, none⟩ = some (.slice (some ⟨g, 0, none⟩) 1 cap) ∧ w1.cell? ⟨g, 0, none⟩ = some (.pointer (some ⟨k, 0, none⟩)) ∧ Hid (Add wb w1)) : Add wb w1 := unhide h.2.2.2
theorem print_keep {wb w1 w2 : World} {bw b g cap k : Nat} {d : Nat}
    (h : w1.cell? ⟨bw, 0, none⟩ = some (.int .i64 d) ∧ w1.cell? ⟨b, 5, none⟩ = some (.slice (some ⟨g, 0, none⟩) 1 cap) ∧ w1.cell? ⟨g, 0, none⟩ = some (.pointer (some ⟨k, 0, none⟩)) ∧ Hid (Add wb w1)) (ha : Add w1 w2) :
    w2.cell? ⟨bw, 0, none⟩ = some (.int .i64 d) ∧ w2.cell? ⟨b, 5, none⟩ = some (.slice (some ⟨g, 0, none⟩) 1 cap) ∧ w2.cell? ⟨g, 0, none⟩ = some (.pointer (some ⟨k, 0, none⟩)) ∧ Hid (Add wb w2) :=
  ⟨ha.cellk h.1, ha.cellk h.2.1, ha.cellk h.2.2.1, (unhide h.2.2.2).tr ha⟩

set_option maxRecDepth 100000 in
set_option maxHeartbeats 4000000 in
theorem statement_print {d b g cap k gs caps k0 k1 : Nat} (w : World) (hg : SG w) (h : PrintAt w b g cap k gs caps k0 k1) :
    Calls Tryz.prog 84 #[.agg #[.int .i64 d], .pointer (some ⟨b, 0, none⟩)] w fun e w' => e = .returned (.string ⟨#[112, 114, 105, 110, 116, 40, 49, 32, 43, 32, 50, 41, 59]⟩) ∧ Add w w' := by
  have HI := hide h
  have HG := hide hg
  have e0 : ∀ o, (w.alloc o).cell? ⟨b, 0, none⟩ = some (.int .i64 16) := fun o => ((Add.refl w).alloc o).cellk h.c0
  clear h hg
  go_enter Tryz.func84, Tryz.ntmps84
  go_wp2_with fail
  have q1 : (w.alloc (.cells #[.int .i64 d] 91)).cell? ⟨w.heap.size, 0, none⟩ = some (.int .i64 d) := hcell (hnew _ _) 0
  have hI := (unhide HI).add ((Add.refl w).alloc (.cells #[.int .i64 d] 91))
  have q2 := hI.c5
  have q3 := hI.g0
  have HA2 := hide ((Add.refl w).alloc (.cells #[.int .i64 d] 91))
  clear hI e0
  generalize (w.alloc (.cells #[.int .i64 d] 91)) = wb at *
  have H0 : Hid (∀ w', (w'.cell? ⟨w.heap.size, 0, none⟩ = some (.int .i64 d) ∧ w'.cell? ⟨b, 5, none⟩ = some (.slice (some ⟨g, 0, none⟩) 1 cap) ∧ w'.cell? ⟨g, 0, none⟩ = some (.pointer (some ⟨k, 0, none⟩)) ∧ Hid (Add wb w')) → Calls Tryz.prog 136 #[.agg #[.int .i64 d], .pointer (some ⟨k, 0, none⟩)] w' fun e w2 => e = .returned (.string ⟨#[49, 32, 43, 32, 50]⟩) ∧ Add w' w2) := fun w' hS => by
    have hA := (unhide HA2).tr (unhide hS.2.2.2)
    exact value_sum w' ((unhide HG).add hA) ((unhide HI).s.add hA)
  have HWB := hide (Add.refl wb)
  go_region_held3 (fun w' => w'.cell? ⟨w.heap.size, 0, none⟩ = some (.int .i64 d) ∧ w'.cell? ⟨b, 5, none⟩ = some (.slice (some ⟨g, 0, none⟩) 1 cap) ∧ w'.cell? ⟨g, 0, none⟩ = some (.pointer (some ⟨k, 0, none⟩)) ∧ Hid (Add wb w')) ((first | exact ⟨q1, q2, q3, (unhide HWB).drew⟩ | exact print_keep (by assumption) ha2)) ((first | (go_at_call_of 136 k; refine (unhide H0 _ (by assumption)).mono ?_; rintro e w2 ⟨rfl, ha2⟩)))
  all_goals
    go_wp2_with fail
    go_ret
    exact ⟨by rfl, (unhide HA2).tr (print_adds (by assumption))⟩
end Go.Proofs.YtcpjefdbgjlnnaaGreatDoor
