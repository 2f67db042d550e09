/-
  mover.rest, mover.roots.
  heap.leave, heap.newMover, part.next.
  Heap.settle: roots are changed, identities are noted anew.
-/
import Derived.Test.YtddfdefgdlfpmaaM10
namespace Go.Proofs.Ytddfdefgdlfpmaa
open Go.RowKit

theorem restM_stop {f : Nat} {M : MS} {i : Nat} (h : ¬ i < (allF M.T).length) : restM f M i = M := by
  cases f with
  | zero => rfl
  | succ f => rw [restM, if_neg h]
theorem restM_step {p : Nat} {M : MS} {i : Nat} (h : i < (allF M.T).length) (hp : (allF M.T).length ≤ p) : restM (p - i) M i = restM (p - (i + 1)) (fieldM M i) (i + 1) := by
  obtain ⟨q, hq⟩ : ∃ q, p - i = q + 1 := ⟨p - i - 1, by omega⟩
  rw [hq, restM, if_pos h, show p - (i + 1) = q by omega]
theorem MvPost.refl {B : Nat} {w : World} {m : Mb} {M : MS} {cs : Array Value} {T : TypeId} {vto vtf : Value} (h : MvAt B w m M cs T vto vtf) : MvPost B m M T vto vtf w w :=
  ⟨FrM.of_below (Below.refl _ _) (hlt h.tpart.blk), cs, vto, vtf, h, Or.inl rfl, Or.inl rfl⟩

set_option maxRecDepth 100000 in
set_option maxHeartbeats 8000000 in
theorem rest_any {B : Nat} {w : World} {m : Mb} {M : MS} {cs : Array Value} {T : TypeId} {vto vtf : Value} (h : MvAt B w m M cs T vto vtf) (hc : Cap M) {k0 s : Nat} (hi : MInv k0 s M) :
    Calls Try.prog 29 #[.pointer (some ⟨m.mv, 0, none⟩), .int .i64 s] w fun e w' => e = .returned (.tuple #[]) ∧ MvPost B m (restM (pot M - s) M s) T vto vtf w w' := by
  have H := hide h
  have HC := hide hc
  have HI := hide hi
  have hpo := hc.po
  clear h hc hi
  go_enter Try.func29, Try.ntmps29
  go_wp2_with fail
  go_loopg [1] (pot M - s) (fun gg iv wr => ∃ (i : Nat) (Mi : MS), gg = pot M - i ∧ iv = .int .i64 i ∧ Hid (MInv k0 i Mi ∧ Cap Mi ∧ pot Mi = pot M ∧ restM (pot M - i) Mi i = restM (pot M - s) M s ∧ MvPost B m Mi T vto vtf w wr))
  case atStart => exact ⟨s, M, rfl, rfl, unhide HI, unhide HC, rfl, rfl, MvPost.refl (unhide H)⟩
  case round =>
    obtain ⟨i, Mi, rfl, rfl, HY⟩ := hrel
    obtain ⟨hI, hC, hP, hR, hF, cs', vto', vtf', hM, e1, e2⟩ := unhide HY
    have m0 := hM.m0
    obtain ⟨gv, cv, hvf⟩ := owns_form hM.tpart.flds
    have c2 : wr.cell? ⟨m.tb, m.tp + 2, none⟩ = some (.slice gv (allF Mi.T).length cv) := by rw [← hvf]; exact (hcell hM.tpart.blk _).trans hM.tpart.e2
    have hle : (allF Mi.T).length ≤ pot M := by rw [← hP]; unfold pot; omega
    have HM := hide hM
    have HCi := hide hC
    have HIi := hide hI
    have HPi := hide hP
    have HRi := hide hR
    have HF := hide hF
    have HE1 := hide e1
    have HE2 := hide e2
    by_cases hlt : i < (allF Mi.T).length
    · have hlt2 : (i : Int) < ((allF Mi.T).length : Int) := by omega
      have HLT := hide hlt
      clear hI hC hP hR hF hM e1 e2 HY hvf
      go_wp2_with fail
      refine (field_any (unhide HM) (unhide HCi) (unhide HLT)).mono ?_
      rintro e w1 ⟨rfl, hp⟩
      have HP1 := hide hp
      clear hp m0 c2
      go_wp2_with fail
      go_roundg (pot M - (i + 1))
      case measure => omega
      case rel => exact ⟨i + 1, fieldM Mi i, rfl, by go_num, ((unhide HIi).field (unhide HLT)).1, (unhide HCi).field (unhide HIi) i, (pot_field (unhide HIi) i).trans (unhide HPi), (restM_step (unhide HLT) hle).symm.trans (unhide HRi), MvPost.trans (unhide HF) (unhide HE1) (unhide HE2) (unhide HP1)⟩
    · have hlt2 : decide ((i : Int) < ((allF Mi.T).length : Int)) = false := by simp; omega
      have HLT := hide hlt
      clear hI hC hP hR hF hM e1 e2 HY hvf hlt
      go_wp2_with fail
      go_end0
      refine ⟨rfl, ?_⟩
      rw [← unhide HRi, restM_stop (unhide HLT)]
      exact ⟨unhide HF, cs', vto', vtf', unhide HM, unhide HE1, unhide HE2⟩
/-- Roots: where they are kept, and where each one leads; what it has. -/
structure RtAt (w : World) (g : Option Addr) (l : List (Option (Nat × Nat × HV))) : Prop where
  at' : ∀ k r, l[k]? = some r → ∃ gb go, g = some ⟨gb, go, none⟩ ∧ w.cell? ⟨gb, go + k, none⟩ = some (.pointer (r.map fun z => ⟨z.1, z.2.1, none⟩))
  val : ∀ rb ro v, some (rb, ro, v) ∈ l → w.cell? ⟨rb, ro, none⟩ = some (.int .i64 v.kind) ∧ w.cell? ⟨rb, ro + 1, none⟩ = some (.int .i64 v.n) ∧ w.cell? ⟨rb, ro + 2, none⟩ = some (.string v.s)
/-- A block that no move turns. -/
def Out (m : Mb) (vto vtf : Value) (w : World) (k : Nat) : Prop := k < w.heap.size ∧ k ≠ m.tb ∧ (∀ b ∈ m.ls, b.wb ≠ k) ∧ vto.ownBlock ≠ some k ∧ vtf.ownBlock ≠ some k
structure RtOut (m : Mb) (vto vtf : Value) (w : World) (g : Option Addr) (l : List (Option (Nat × Nat × HV))) : Prop where
  g' : ∀ gb go, g = some ⟨gb, go, none⟩ → 0 < l.length → Out m vto vtf w gb
  v' : ∀ rb ro v, some (rb, ro, v) ∈ l → Out m vto vtf w rb
theorem Out.same {m : Mb} {vto vtf : Value} {w w' : World} {k : Nat} (h : Out m vto vtf w k) (hF : FrM m vto vtf w w') : w'.heap[k]? = w.heap[k]? := hF.block k h.1 h.2.1 h.2.2.1 h.2.2.2.1 h.2.2.2.2
theorem RtAt.same {m : Mb} {vto vtf : Value} {w w' : World} {g : Option Addr} {l : List (Option (Nat × Nat × HV))} (h : RtAt w g l) (ho : RtOut m vto vtf w g l) (hF : FrM m vto vtf w w') : RtAt w' g l := by
  refine ⟨fun k r hk => ?_, fun rb ro v hv => ?_⟩
  · obtain ⟨gb, go, e, hc⟩ := h.at' k r hk
    exact ⟨gb, go, e, (World.cell?_of_block ((ho.g' gb go e (by have := (List.getElem?_eq_some_iff.1 hk).1; omega)).same hF)).trans hc⟩
  · have hs := (ho.v' rb ro v hv).same hF
    obtain ⟨a, b, c⟩ := h.val rb ro v hv
    exact ⟨(World.cell?_of_block hs).trans a, (World.cell?_of_block hs).trans b, (World.cell?_of_block hs).trans c⟩
def rootVs (l : List (Option (Nat × Nat × HV))) : List HV := l.filterMap fun r => r.map fun z => z.2.2
theorem rootVs_step {l : List (Option (Nat × Nat × HV))} {k : Nat} {r : Option (Nat × Nat × HV)} (h : l[k]? = some r) : rootVs (l.take (k + 1)) = rootVs (l.take k) ++ (r.map fun z => z.2.2).toList := by
  unfold rootVs
  rw [List.take_add_one, h, List.filterMap_append]
  cases r <;> rfl
theorem rootsM_snoc (M : MS) (l : List HV) (v : HV) : rootsM M (l ++ [v]) = (moveV (rootsM M l) v).1 := by simp [rootsM]

set_option maxRecDepth 100000 in
set_option maxHeartbeats 8000000 in
theorem roots_any {B : Nat} {w : World} {m : Mb} {M : MS} {cs : Array Value} {T : TypeId} {vto vtf : Value} (h : MvAt B w m M cs T vto vtf) (hc : Cap M) {k0 s : Nat} (hi : MInv k0 s M) {g : Option Addr} {l : List (Option (Nat × Nat × HV))} (hr : RtAt w g l) (ho : RtOut m vto vtf w g l) (hn : ∀ rb ro v, some (rb, ro, v) ∈ l → I64 v.n) (hl : l.length ≤ 1000000000) (cap : Nat) :
    Calls Try.prog 28 #[.pointer (some ⟨m.mv, 0, none⟩), .slice g l.length cap] w fun e w' => e = .returned (.tuple #[]) ∧ MvPost B m (rootsM M (rootVs l)) T vto vtf w w' := by
  have H := hide h
  have HC := hide hc
  have HI := hide hi
  have HRT := hide hr
  have HO := hide ho
  have HN := hide hn
  clear h hc hi hr ho hn
  go_enter Try.func28, Try.ntmps28
  go_wp2_with fail
  go_loopg [8] l.length (fun gg iv wr => ∃ (k : Nat) (Mk : MS), k ≤ l.length ∧ gg = l.length - k ∧ iv = .int .i64 k ∧ Hid (Mk = rootsM M (rootVs (l.take k)) ∧ MInv k0 s Mk ∧ Cap Mk ∧ MvPost B m Mk T vto vtf w wr))
  case atStart => exact ⟨0, M, Nat.zero_le _, rfl, rfl, rfl, unhide HI, unhide HC, MvPost.refl (unhide H)⟩
  case round =>
    obtain ⟨k, Mk, hk, rfl, rfl, HY⟩ := hrel
    obtain ⟨hE, hI, hC, hF, cs', vto', vtf', hM, e1, e2⟩ := unhide HY
    have HM := hide hM
    have HCk := hide hC
    have HIk := hide hI
    have HEk := hide hE
    have HF := hide hF
    have HE1 := hide e1
    have HE2 := hide e2
    by_cases hlt : k < l.length
    · have hx : l[k]? = some (l[k]'hlt) := List.getElem?_eq_getElem _
      generalize (l[k]'hlt) = r at *
      have hrt := (unhide HRT).same (unhide HO) hF
      obtain ⟨gb, go, rfl, c0⟩ := hrt.at' k r hx
      have hk2 : (k : Int) < (l.length : Int) := by omega
      have HX := hide hx
      cases r with
      | none =>
        clear hE hI hC hF hM e1 e2 hrt hx
        go_wp2_with fail
        go_roundg (l.length - (k + 1))
        case measure => omega
        case rel => exact ⟨k + 1, Mk, by omega, rfl, by go_num, by rw [unhide HEk, rootVs_step (unhide HX)]; simp, unhide HIk, unhide HCk, unhide HF, cs', vto', vtf', unhide HM, unhide HE1, unhide HE2⟩
      | some z =>
        obtain ⟨rb, ro, v⟩ := z
        have hmem : some (rb, ro, v) ∈ l := List.mem_of_getElem? hx
        obtain ⟨v0, v1, v2⟩ := hrt.val rb ro v hmem
        have hnv := unhide HN rb ro v hmem
        have HNV := hide hnv
        have c0' : wr.cell? ⟨gb, go + k, none⟩ = some (.pointer (some ⟨rb, ro, none⟩)) := c0
        clear hE hI hC hF hM e1 e2 hrt hx c0 hmem hnv
        go_wp2_with fail
        refine (moved_cap (unhide HM) (unhide HCk) v (unhide HNV)).mono ?_
        rintro e w1 ⟨rfl, hp⟩
        have HP1 := hide hp
        clear hp v0 v1 v2 c0'
        go_wp2_with fail
        go_roundg (l.length - (k + 1))
        case measure => omega
        case rel => exact ⟨k + 1, (moveV Mk v).1, by omega, rfl, by go_num, by rw [unhide HEk, rootVs_step (unhide HX)]; exact (rootsM_snoc _ _ _).symm, ((unhide HIk).move v).1, ((unhide HCk).move (unhide HIk) (unhide HNV)).1, MvPost.trans (unhide HF) (unhide HE1) (unhide HE2) (unhide HP1)⟩
    · obtain rfl : k = l.length := by omega
      have hff : decide ((l.length : Int) < (l.length : Int)) = false := by simp
      clear hlt hk hE hI hC hF hM e1 e2
      go_wp2_with fail
      go_end0
      refine ⟨rfl, ?_⟩
      have := unhide HEk
      rw [List.take_length] at this
      rw [← this]
      exact ⟨unhide HF, cs', vto', vtf', unhide HM, unhide HE1, unhide HE2⟩
end Go.Proofs.Ytddfdefgdlfpmaa

namespace Go.Proofs.Ytddfdefgdlfpmaa
open Go.RowKit

theorem madeInts (n : Nat) : madeCells #[Value.int .i64 0] n = ((List.replicate n (0 : Int)).map iv).toArray := by
  apply Array.ext_getElem?
  intro j
  simp only [madeCells, iv, List.map_replicate, List.getElem?_toArray, List.getElem?_replicate]
  by_cases hj : j < n
  · simp [hj, Nat.mod_one]
  · simp [hj]
theorem infoIntH : (Try.prog.info? 3).map (fun i => (i.zero, i.size, i.bytes)) = some (some (.int .i64 0), 1, 8) := by kernel_rfl
theorem rep_map (n : Nat) : ((List.replicate n (0 : Int)).map iv).toArray = Array.replicate n (iv 0) := by simp
/-- The world behind leave. -/
def leftW (w : World) (pb po n : Nat) : World := (w.alloc (.cells ((List.replicate n (0 : Int)).map iv).toArray 3)).alloc (.cells #[.pointer (some ⟨pb, po, none⟩), .slice (some ⟨w.heap.size, 0, none⟩) n n] 82)
theorem leftW_below (w : World) (pb po n : Nat) : Below w.heap.size w (leftW w pb po n) := ((Below.refl _ _).alloc (Nat.le_refl _) _).alloc (by simp) _
theorem leftW_size (w : World) (pb po n : Nat) : (leftW w pb po n).heap.size = w.heap.size + 2 := by simp [leftW]
theorem leftW_wb (w : World) (pb po n : Nat) : (leftW w pb po n).heap[w.heap.size]? = some (.cells ((List.replicate n (0 : Int)).map iv).toArray 3 (0, 0)) := (Below.heap_alloc _ _ _ (by simp)).trans (hnew _ _)
theorem leftW_l (w : World) (pb po n : Nat) : (leftW w pb po n).heap[w.heap.size + 1]? = some (.cells #[.pointer (some ⟨pb, po, none⟩), .slice (some ⟨w.heap.size, 0, none⟩) n n] 82 (0, 0)) := hnewAt _ _ (by simp)

set_option maxRecDepth 100000 in
set_option maxHeartbeats 2000000 in
theorem leave_any {B : Nat} {w : World} {pb po : Nat} {l : List HO} {vo vf : Value} (h : PtAt B w pb po l vo vf) (hl : l.length ≤ 10000000) :
    Calls Try.prog 25 #[.pointer (some ⟨pb, po, none⟩)] w fun e w' => e = .returned (.pointer (some ⟨w.heap.size + 1, 0, none⟩)) ∧ w' = leftW w pb po l.length := by
  have c1 := h.c1
  obtain ⟨g, cap, hv⟩ := owns_form h.objs
  rw [hv] at c1
  have hmk := run_make_row' (P := Try.prog) 22 3 (.int .i64 0) 8 Try.underlying22 infoIntH rfl .i64 .i64 l.length (by omega) (by omega)
  rw [madeInts] at hmk
  clear h hv
  go_enter Try.func25, Try.ntmps25
  go_wp2_with fail
  go_ret
  exact ⟨rfl, by unfold leftW; rw [rep_map]⟩
theorem leave_at {B : Nat} {w w' : World} {pb po : Nat} {l : List HO} {vo vf : Value} {f : Int} (h : PtAt B w pb po l vo vf) (hf : w.cell? ⟨pb, po, none⟩ = some (.int .i64 f)) (h0 : 0 ≤ f) (h1 : f + 2 * l.length ≤ 4611686018427387904) (hb : Below (leftW w pb po l.length).heap.size (leftW w pb po l.length) w') :
    LvAt B w' ⟨w.heap.size + 1, pb, po, w.heap.size, vo, vf⟩ ⟨f, l, List.replicate l.length 0⟩ := by
  have hk := leftW_below w pb po l.length
  refine LvAt.keep ?_ hb
  exact ⟨hcell (leftW_l _ _ _ _) 0, hcell (leftW_l _ _ _ _) 1, leftW_wb _ _ _ _, by simp, cellk hk hf (cell_lt hf), h.keep hk, h0, h1⟩
/-- The world behind newMover. -/
def moverW (w : World) (tb tp lb n cap : Nat) : World := (w.alloc (.cells #[.slice (some ⟨lb, 0, none⟩) n cap] 83)).alloc (.cells #[.pointer (some ⟨tb, tp, none⟩), .func (.func 36) #[] #[.pointer (some ⟨w.heap.size, 0, none⟩)]] 86)
theorem moverW_below (w : World) (tb tp lb n cap : Nat) : Below w.heap.size w (moverW w tb tp lb n cap) := ((Below.refl _ _).alloc (Nat.le_refl _) _).alloc (by simp) _
theorem moverW_fb (w : World) (tb tp lb n cap : Nat) : (moverW w tb tp lb n cap).heap[w.heap.size]? = some (.cells #[.slice (some ⟨lb, 0, none⟩) n cap] 83 (0, 0)) := (Below.heap_alloc _ _ _ (by simp)).trans (hnew _ _)
theorem moverW_mv (w : World) (tb tp lb n cap : Nat) : (moverW w tb tp lb n cap).heap[w.heap.size + 1]? = some (.cells #[.pointer (some ⟨tb, tp, none⟩), .func (.func 36) #[] #[.pointer (some ⟨w.heap.size, 0, none⟩)]] 86 (0, 0)) := hnewAt _ _ (by simp)

set_option maxRecDepth 100000 in
set_option maxHeartbeats 2000000 in
theorem newMover_any (w : World) (tb tp lb n cap : Nat) :
    Calls Try.prog 26 #[.pointer (some ⟨tb, tp, none⟩), .slice (some ⟨lb, 0, none⟩) n cap] w fun e w' => e = .returned (.pointer (some ⟨w.heap.size + 1, 0, none⟩)) ∧ w' = moverW w tb tp lb n cap := by
  go_enter Try.func26, Try.ntmps26
  go_wp2_with fail
  go_ret
  exact ⟨rfl, rfl⟩

set_option maxRecDepth 100000 in
set_option maxHeartbeats 2000000 in
theorem next_any {B : Nat} {w : World} {pb po : Nat} {l : List HO} {vo vf : Value} {f : Int} (h : PtAt B w pb po l vo vf) (hf : w.cell? ⟨pb, po, none⟩ = some (.int .i64 f)) (h0 : 0 ≤ f) (h1 : f + 2 * l.length ≤ 4611686018427387904) :
    Calls Try.prog 31 #[.pointer (some ⟨pb, po, none⟩)] w fun e w' => e = .returned (.agg #[.int .i64 (f + 2 * l.length), .slice none 0 0, .slice none 0 0]) ∧ Below w.heap.size w w' := by
  obtain ⟨w0, hw0⟩ : ∃ w0, w.alloc (.cells #[.int .i64 0, .slice none 0 0, .slice none 0 0] 48) = w0 := ⟨_, rfl⟩
  have hb0 : Below w.heap.size w w0 := by rw [← hw0]; exact (Below.refl _ _).alloc (Nat.le_refl _) _
  have hk0 : w0.heap[w.heap.size]? = some (.cells #[.int .i64 0, .slice none 0 0, .slice none 0 0] 48 (0, 0)) := by rw [← hw0]; exact hnew _ _
  have c1 := cellk hb0 h.c1 (cell_lt h.c1)
  have HF := hide (cellk hb0 hf (cell_lt hf))
  obtain ⟨g, cap, hv⟩ := owns_form h.objs
  rw [hv] at c1
  have HB0 := hide hb0
  have HK0 := hide hk0
  have H0 := hide h0
  have H1 := hide h1
  clear h hf hv hb0 hk0 h0 h1
  go_enter Try.func31, Try.ntmps31
  go_wp2_with fail
  refine (address_any (unhide HF) (unhide H0) (unhide H1)).mono ?_
  rintro e w1 ⟨rfl, rfl⟩
  have r0 := hcell (unhide HK0) 0
  have r1 := fun u => cell_off (v := u) (i := 0) (hcell (unhide HK0) 1) (by decide)
  have r2 := fun u u' => cell_off2 (v := u) (v' := u') (i := 0) (i' := 1) (hcell (unhide HK0) 2) (by decide) (by decide)
  have z0 := hfroz (unhide HK0) 0
  have z1 := hfroz (unhide HK0) 1
  have z2 := hfroz (unhide HK0) 2
  clear hw0
  go_wp2_with fail
  have hk3 := set3 (unhide HK0) (.int .i64 (f + 2 * (l.length : Int))) (.slice none 0 0) (.slice none 0 0)
  have f0 := hcell hk3 0
  have f1 := hcell hk3 1
  have f2 := hcell hk3 2
  refine bodyPost_ret (v := .agg #[.int .i64 (f + 2 * (l.length : Int)), .slice none 0 0, .slice none 0 0]) (by simp [results, Try.results31, f0, f1, f2, go_sem]) rfl ?_
  exact ⟨rfl, (((unhide HB0).setCell (Nat.le_refl _) _).setCell (Nat.le_refl _) _).setCell (Nat.le_refl _) _⟩
end Go.Proofs.Ytddfdefgdlfpmaa

namespace Go.Proofs.Ytddfdefgdlfpmaa
open Go.RowKit Go.Maps

theorem went_move {M : MS} {v : HV} (h : Went M.L v) : moveV M v = (M, phi M.L v) := by
  unfold moveV phi
  split
  · rfl
  · rename_i hk
    have hk4 : v.kind = 4 := by simpa using hk
    cases hq : leadsTo M.L 0 v.n with
    | none => rfl
    | some q =>
      have := h hk4 q hq
      simp only [this, if_false, ne_eq, not_false_eq_true, if_true]
/-- What lies in the part leads nowhere that is left. -/
def ToOut (M : MS) : Prop := ∀ t : Nat, t < M.T.length → leadsTo M.L 0 (M.ft + 2 * t) = none
theorem phi_phi {k0 s : Nat} {M : MS} (hi : MInv k0 s M) (ho : ToOut M) (v : HV) : phi M.L (phi M.L v) = phi M.L v ∧ (Went M.L v → Went M.L (phi M.L v)) := by
  by_cases hk : v.kind ≠ 4
  · have e : phi M.L v = v := by unfold phi; rw [if_pos hk]
    rw [e]
    exact ⟨e, id⟩
  · cases hq : leadsTo M.L 0 v.n with
    | none =>
      have e : phi M.L v = v := by unfold phi; rw [if_neg hk]; simp only [hq]
      rw [e]
      exact ⟨e, id⟩
    | some q =>
      by_cases hg : goneTo M.L q = 0
      · have e : phi M.L v = v := by unfold phi; rw [if_neg hk]; simp only [hq, if_pos hg]
        rw [e]
        exact ⟨e, id⟩
      · have e : phi M.L v = { v with n := goneTo M.L q } := by unfold phi; rw [if_neg hk]; simp only [hq, if_neg hg]
        obtain ⟨t, t1, t2, t3⟩ := hi.conv q hg
        have hl : leadsTo M.L 0 (goneTo M.L q) = none := by rw [t3]; exact ho t t2
        rw [e]
        refine ⟨?_, fun _ _ q' hq' => ?_⟩
        · unfold phi
          rw [if_neg hk]
          simp only [hl]
        · have hq' : leadsTo M.L 0 (goneTo M.L q) = some q' := hq'
          rw [hl] at hq'
          cases hq'
/-- Roots, and that they lie apart from what moves. -/
structure RtFit (m : Mb) (vto vtf : Value) (w : World) (g : Option Addr) (l : List (Option (Nat × Nat × HV))) : Prop where
  out : RtOut m vto vtf w g l
  ty : ∀ rb ro v, some (rb, ro, v) ∈ l → Typ w rb 34
  bf : ∀ b ∈ m.ls, ∀ rb ro v, some (rb, ro, v) ∈ l → b.vf.ownBlock ≠ some rb
  gt : ∀ gb go, g = some ⟨gb, go, none⟩ → 0 < l.length → Typ w gb 40
  ap : ∀ rb ro v ro' v', some (rb, ro, v) ∈ l → some (rb, ro', v') ∈ l → ro = ro' ∨ ro + 2 < ro' ∨ ro' + 2 < ro
  fz : ∀ rb ro v, some (rb, ro, v) ∈ l → ∃ cs, w.heap[rb]? = some (.cells cs 34 (0, 0))
/-- What a root has, once the first k were changed. -/
def rootNow (M : MS) (l : List (Option (Nat × Nat × HV))) (k : Nat) (rb ro : Nat) (v : HV) : HV := if (l.take k).any (fun r => match r with | some z => z.1 == rb && z.2.1 == ro | none => false) then phi M.L v else v
/-- An identity is noted anew, or struck out. -/
def idStep (D : DataW Unit) (o : HO) (a : Int) : DataW Unit := if a = 0 then D.del (.int .i64 o.id) else if 0 < o.id then D.put (.int .i64 o.id) (.lit (.int .i64 a)) else D
def idsPart (D : DataW Unit) (p : PL) : DataW Unit := (p.objs.zip p.went).foldl (fun D z => idStep D z.1 z.2) D
def idsAll (D : DataW Unit) (L : List PL) : DataW Unit := L.foldl idsPart D
/-- What stays: all but what moves, and but some blocks. -/
structure FrS (R : Nat → Prop) (m : Mb) (vto vtf : Value) (w w' : World) : Prop where
  os : w'.os = w.os
  tape : w'.tape = w.tape
  output : w'.output = w.output
  size : w.heap.size ≤ w'.heap.size
  block : ∀ k, Out m vto vtf w k → ¬ R k → w'.heap[k]? = w.heap[k]?
  head : ¬ R m.tb → ∀ c, (c < m.tp + 1 ∨ m.tp + 2 < c) → w'.cell? ⟨m.tb, c, none⟩ = w.cell? ⟨m.tb, c, none⟩
theorem FrS.refl (R : Nat → Prop) (m : Mb) (vto vtf : Value) (w : World) : FrS R m vto vtf w w := ⟨rfl, rfl, rfl, Nat.le_refl _, fun _ _ _ => rfl, fun _ _ _ => rfl⟩
theorem Out.later {m : Mb} {vto vtf vto' vtf' : Value} {w w' : World} {k : Nat} (h : Out m vto vtf w k) (hs : w.heap.size ≤ w'.heap.size) (h1 : vto'.ownBlock = vto.ownBlock ∨ ∀ j, vto'.ownBlock = some j → w.heap.size ≤ j) (h2 : vtf'.ownBlock = vtf.ownBlock ∨ ∀ j, vtf'.ownBlock = some j → w.heap.size ≤ j) : Out m vto' vtf' w' k := by
  obtain ⟨a, b, c, d, e⟩ := h
  refine ⟨Nat.lt_of_lt_of_le a hs, b, c, ?_, ?_⟩
  · rcases h1 with q | q
    · rw [q]; exact d
    · intro z; have := q k z; omega
  · rcases h2 with q | q
    · rw [q]; exact e
    · intro z; have := q k z; omega
theorem FrS.move {R : Nat → Prop} {m : Mb} {vto vtf vto' vtf' : Value} {w w' w'' : World} (h : FrS R m vto vtf w w') (k : FrM m vto' vtf' w' w'') (h1 : vto'.ownBlock = vto.ownBlock ∨ ∀ j, vto'.ownBlock = some j → w.heap.size ≤ j) (h2 : vtf'.ownBlock = vtf.ownBlock ∨ ∀ j, vtf'.ownBlock = some j → w.heap.size ≤ j) : FrS R m vto vtf w w'' :=
  ⟨k.os.trans h.os, k.tape.trans h.tape, k.output.trans h.output, Nat.le_trans h.size k.size, fun j hj hr => ((hj.later h.size h1 h2).same k).trans (h.block j hj hr), fun hr c hc => (k.head c hc).trans (h.head hr c hc)⟩
theorem FrS.set3 {R : Nat → Prop} {m : Mb} {vto vtf : Value} {w w' : World} (h : FrS R m vto vtf w w') {r a b c : Nat} (hr : R r) (x y z : Value) : FrS R m vto vtf w (((w'.setCell ⟨r, a, none⟩ x).setCell ⟨r, b, none⟩ y).setCell ⟨r, c, none⟩ z) := by
  have oth : ∀ k, k ≠ r → (((w'.setCell ⟨r, a, none⟩ x).setCell ⟨r, b, none⟩ y).setCell ⟨r, c, none⟩ z).heap[k]? = w'.heap[k]? := fun k hk => by rw [hother _ hk, hother _ hk, hother _ hk]
  exact ⟨h.os, h.tape, h.output, by simpa [World.setCell] using h.size, fun k hk hn => (oth k (fun e => hn (e ▸ hr))).trans (h.block k hk hn), fun hn k hk => (World.cell?_of_block (oth m.tb (fun e => hn (by rw [e]; exact hr)))).trans (h.head hn k hk)⟩
/-- The roots' blocks. -/
def rootB (l : List (Option (Nat × Nat × HV))) (k : Nat) : Prop := ∃ ro v, some (k, ro, v) ∈ l
/-- Roots behind the first k were changed. -/
structure RtNow (M : MS) (w : World) (g : Option Addr) (l : List (Option (Nat × Nat × HV))) (k : Nat) : Prop where
  at' : ∀ k r, l[k]? = some r → ∃ gb go, g = some ⟨gb, go, none⟩ ∧ w.cell? ⟨gb, go + k, none⟩ = some (.pointer (r.map fun z => ⟨z.1, z.2.1, none⟩))
  val : ∀ rb ro v, some (rb, ro, v) ∈ l → w.cell? ⟨rb, ro, none⟩ = some (.int .i64 (rootNow M l k rb ro v).kind) ∧ w.cell? ⟨rb, ro + 1, none⟩ = some (.int .i64 (rootNow M l k rb ro v).n) ∧ w.cell? ⟨rb, ro + 2, none⟩ = some (.string (rootNow M l k rb ro v).s)
  fz : ∀ rb ro v, some (rb, ro, v) ∈ l → ∃ cs, w.heap[rb]? = some (.cells cs 34 (0, 0))
theorem now_zero (M : MS) (l : List (Option (Nat × Nat × HV))) (rb ro : Nat) (v : HV) : rootNow M l 0 rb ro v = v := by simp [rootNow]
theorem now_or (M : MS) (l : List (Option (Nat × Nat × HV))) (k rb ro : Nat) (v : HV) : rootNow M l k rb ro v = v ∨ rootNow M l k rb ro v = phi M.L v := by
  unfold rootNow
  split
  · exact Or.inr rfl
  · exact Or.inl rfl
theorem now_none (M : MS) {l : List (Option (Nat × Nat × HV))} {k : Nat} (h : l[k]? = some none) (rb ro : Nat) (v : HV) : rootNow M l (k + 1) rb ro v = rootNow M l k rb ro v := by
  unfold rootNow
  rw [List.take_add_one, h]
  simp
theorem now_same (M : MS) {l : List (Option (Nat × Nat × HV))} {k rb ro : Nat} {v : HV} (h : l[k]? = some (some (rb, ro, v))) (u : HV) : rootNow M l (k + 1) rb ro u = phi M.L u := by
  unfold rootNow
  rw [List.take_add_one, h]
  simp
theorem now_other (M : MS) {l : List (Option (Nat × Nat × HV))} {k rb ro rb' ro' : Nat} {v : HV} (h : l[k]? = some (some (rb, ro, v))) (hne : ¬ (rb = rb' ∧ ro = ro')) (u : HV) : rootNow M l (k + 1) rb' ro' u = rootNow M l k rb' ro' u := by
  unfold rootNow
  rw [List.take_add_one, h]
  have : (rb == rb' && ro == ro') = false := by
    rw [Bool.and_eq_false_iff]
    by_cases e : rb = rb'
    · exact Or.inr (by simpa using fun q => hne ⟨e, q⟩)
    · exact Or.inl (by simpa using e)
  simp [this]
theorem now_all (M : MS) {l : List (Option (Nat × Nat × HV))} {rb ro : Nat} {v : HV} (h : some (rb, ro, v) ∈ l) : rootNow M l l.length rb ro v = phi M.L v := by
  unfold rootNow
  rw [List.take_length, if_pos]
  rw [List.any_eq_true]
  exact ⟨_, h, by simp⟩
/-- A root is changed. -/
theorem RtNow.step {M : MS} {w : World} {g : Option Addr} {l : List (Option (Nat × Nat × HV))} {k rb ro : Nat} {v : HV} (h : RtNow M w g l k) (hk : l[k]? = some (some (rb, ro, v))) (hap : ∀ rb ro v ro' v', some (rb, ro, v) ∈ l → some (rb, ro', v') ∈ l → ro = ro' ∨ ro + 2 < ro' ∨ ro' + 2 < ro)
    (hgt : ∀ gb go, g = some ⟨gb, go, none⟩ → gb ≠ rb) (hsame : ∀ v', some (rb, ro, v') ∈ l → phi M.L v' = phi M.L v) :
    RtNow M (((w.setCell ⟨rb, ro, none⟩ (.int .i64 (phi M.L v).kind)).setCell ⟨rb, ro + 1, none⟩ (.int .i64 (phi M.L v).n)).setCell ⟨rb, ro + 2, none⟩ (.string (phi M.L v).s)) g l (k + 1) := by
  have hmem := List.mem_of_getElem? hk
  have oth : ∀ k, k ≠ rb → (((w.setCell ⟨rb, ro, none⟩ (.int .i64 (phi M.L v).kind)).setCell ⟨rb, ro + 1, none⟩ (.int .i64 (phi M.L v).n)).setCell ⟨rb, ro + 2, none⟩ (.string (phi M.L v).s)).heap[k]? = w.heap[k]? := fun k hk => by rw [hother _ hk, hother _ hk, hother _ hk]
  refine ⟨fun j r hj => ?_, fun rb' ro' v' hv' => ?_, fun rb' ro' v' hv' => ?_⟩
  · obtain ⟨gb, go, e, hc⟩ := h.at' j r hj
    exact ⟨gb, go, e, (World.cell?_of_block (oth gb (hgt gb go e))).trans hc⟩
  · obtain ⟨a0, a1, a2⟩ := h.val rb ro v hmem
    obtain ⟨b0, b1, b2⟩ := h.val rb' ro' v' hv'
    by_cases e : rb = rb' ∧ ro = ro'
    · obtain ⟨rfl, rfl⟩ := e
      rw [now_same M hk, hsame v' hv']
      refine ⟨?_, ?_, ?_⟩
      · exact cell_off2 (World.cell?_setCell_same _ _ _ a0) (by omega) (by omega)
      · exact cell_off (World.cell?_setCell_same _ _ _ (cell_off a1 (by omega))) (by omega)
      · exact World.cell?_setCell_same _ _ _ (cell_off2 a2 (by omega) (by omega))
    · rw [now_other M hk e]
      by_cases er : rb' = rb
      · subst er
        have := hap rb' ro v ro' v' hmem hv'
        have hne : ro ≠ ro' := fun q => e ⟨rfl, q⟩
        refine ⟨?_, ?_, ?_⟩
        · exact cell_off (cell_off2 b0 (by omega) (by omega)) (by omega)
        · exact cell_off (cell_off2 b1 (by omega) (by omega)) (by omega)
        · exact cell_off (cell_off2 b2 (by omega) (by omega)) (by omega)
      · exact ⟨(World.cell?_of_block (oth rb' er)).trans b0, (World.cell?_of_block (oth rb' er)).trans b1, (World.cell?_of_block (oth rb' er)).trans b2⟩
  · obtain ⟨cs, hc⟩ := h.fz rb' ro' v' hv'
    by_cases er : rb' = rb
    · subst er
      exact ⟨_, hset (hset (hset hc _ _) _ _) _ _⟩
    · exact ⟨cs, (oth rb' er).trans hc⟩
end Go.Proofs.Ytddfdefgdlfpmaa
