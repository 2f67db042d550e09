/-
  DERIVED: THE SHELF's CONTRACTS AT THIS DUMP, IN PLAIN WORDS (tools/lay-plain.mjs out of 'YtddfdefgdlfpmaaShelfx.lean', which tools/lay-shelf.mjs wrote): THE SAME DECLARATIONS UNDER THE SAME NAMES: 'import', 'namespace', 'open', 'def', 'theorem' AND NOTHING ELSE: no command of the shelf's: FOR A HAND-IN. Each laying: the table of numbers ('.._ren') and one theorem, a field a fact of the dump's own or the kernel's comparison; each contract: ONE APPLICATION.
  Heap.Ids: as many as there are identities.
  HeapCheney: where nothing is asked.
  HeapCheney: a field is set.
  HeapCheney: memory while collections go on.
-/
import Derived.Test.YtddfdefgdlfpmaaM19
import Derived.Shelf.SlIterI.Nil
import Derived.Shelf.SortM.Plain
import Derived.Shelf.SortM.SortNone
import Derived.Ground.GgzProg
import Derived.Ground.SlgmProg
import Derived.Test.YtddfdefgdlfpmaaProg
namespace Go.Proofs
open Go.Shelf
def Try.keysA_ren : Go.Shelf.Ren := ⟨fun | 7 => 33 | 10 => 40 | n => n, fun | 23 => 49 | 26 => 3 | 3 => 3 | 28 => 75 | 0 => 0 | 27 => 74 | 33 => 89 | 4 => 4 | n => n, fun | n => n⟩
theorem Try.keysA : Go.Proofs.SlLaysZI.n7 Try.prog Try.keysA_ren := {
  mixed := by kernel_rfl
  f7 := ⟨Try.f33.name, by decide, Try.func33.trans (congrArg some (by kernel_rfl))⟩
  f10 := ⟨Try.f40.name, by decide, Try.func40.trans (congrArg some (by kernel_rfl))⟩
  t0 := Try.underlying0
  a0 := Try.isAgg0
  z0 := Try.sizeOf0
  v0 := Try.zeroValue0
  t4 := Try.underlying4
  a4 := Try.isAgg4
  z4 := Try.sizeOf4
  v4 := Try.zeroValue4
  t23 := Try.underlying49
  a23 := Try.isAgg49
  z23 := Try.sizeOf49
  v23 := Try.zeroValue49
  t26 := Try.underlying3
  a26 := Try.isAgg3
  z26 := Try.sizeOf3
  v26 := Try.zeroValue3
  t27 := Try.underlying74
  a27 := Try.isAgg74
  z27 := Try.sizeOf74
  v27 := Try.zeroValue74
  t28 := Try.underlying75
  a28 := Try.isAgg75
  z28 := Try.sizeOf75
  v28 := Try.zeroValue75
  t33 := Try.underlying89
  a33 := Try.isAgg89
  z33 := Try.sizeOf89
  v33 := Try.zeroValue89 }
def Try.sortedA_ren : Go.Shelf.Ren := ⟨fun | 6 => 32 | 8 => 38 | 9 => 39 | 11 => 41 | 13 => 43 | 12 => 42 | 23 => 53 | 24 => 54 | 14 => 44 | 15 => 45 | 16 => 46 | 17 => 47 | 18 => 48 | 19 => 49 | 20 => 50 | 21 => 51 | 22 => 52 | 25 => 55 | 26 => 56 | 27 => 57 | 28 => 58 | 29 => 59 | 30 => 60 | 31 => 61 | n => n, fun | 26 => 3 | 28 => 75 | 24 => 22 | 0 => 0 | 3 => 3 | 37 => 58 | 48 => 103 | 50 => 105 | 4 => 4 | 40 => 96 | 39 => 95 | 45 => 78 | 5 => 5 | 9 => 9 | 51 => 106 | 55 => 110 | 57 => 112 | 58 => 113 | 33 => 89 | n => n, fun | n => n⟩
theorem Try.sortedA : Go.Proofs.SlLaysZI.n6 Try.prog Try.sortedA_ren := {
  mixed := by kernel_rfl
  f6 := ⟨Try.f32.name, by decide, Try.func32.trans (congrArg some (by kernel_rfl))⟩
  f8 := ⟨Try.f38.name, by decide, Try.func38.trans (congrArg some (by kernel_rfl))⟩
  f11 := ⟨Try.f41.name, by decide, Try.func41.trans (congrArg some (by kernel_rfl))⟩
  t0 := Try.underlying0
  a0 := Try.isAgg0
  z0 := Try.sizeOf0
  v0 := Try.zeroValue0
  t24 := Try.underlying22
  a24 := Try.isAgg22
  z24 := Try.sizeOf22
  v24 := Try.zeroValue22
  t26 := Try.underlying3
  a26 := Try.isAgg3
  z26 := Try.sizeOf3
  v26 := Try.zeroValue3
  t28 := Try.underlying75
  a28 := Try.isAgg75
  z28 := Try.sizeOf75
  v28 := Try.zeroValue75
  i26 := by kernel_rfl }
def Try.sortA_ren : Go.Shelf.Ren := ⟨fun | 5 => 39 | 8 => 43 | 7 => 42 | 19 => 53 | 20 => 54 | 10 => 44 | 11 => 45 | 12 => 46 | 13 => 47 | 14 => 48 | 15 => 49 | 16 => 50 | 17 => 51 | 18 => 52 | 30 => 55 | 31 => 56 | 32 => 57 | 33 => 58 | 34 => 59 | 35 => 60 | 40 => 61 | n => n, fun | 23 => 22 | 25 => 3 | 3 => 3 | 32 => 58 | 22 => 22 | 0 => 0 | 44 => 103 | 46 => 105 | 4 => 4 | 36 => 96 | 35 => 95 | 41 => 78 | 5 => 5 | 9 => 9 | 53 => 106 | 57 => 110 | 63 => 112 | 64 => 113 | n => n, fun | n => n⟩
theorem Try.sortA : Go.Proofs.SlLaysM.n5 Try.prog Try.sortA_ren := {
  mixed := by kernel_rfl
  f5 := ⟨Try.f39.name, by decide, Try.func39.trans (congrArg some (by kernel_rfl))⟩
  f7 := ⟨Try.f42.name, by decide, Try.func42.trans (congrArg some (by kernel_rfl))⟩
  f8 := Try.func43.trans (congrArg some (by kernel_rfl))
  f10 := ⟨Try.f44.name, by decide, Try.func44.trans (congrArg some (by kernel_rfl))⟩
  f11 := ⟨Try.f45.name, by decide, Try.func45.trans (congrArg some (by kernel_rfl))⟩
  f12 := ⟨Try.f46.name, by decide, Try.func46.trans (congrArg some (by kernel_rfl))⟩
  f13 := ⟨Try.f47.name, by decide, Try.func47.trans (congrArg some (by kernel_rfl))⟩
  f14 := ⟨Try.f48.name, by decide, Try.func48.trans (congrArg some (by kernel_rfl))⟩
  f15 := ⟨Try.f49.name, by decide, Try.func49.trans (congrArg some (by kernel_rfl))⟩
  f16 := ⟨Try.f50.name, by decide, Try.func50.trans (congrArg some (by kernel_rfl))⟩
  f17 := ⟨Try.f51.name, by decide, Try.func51.trans (congrArg some (by kernel_rfl))⟩
  f18 := ⟨Try.f52.name, by decide, Try.func52.trans (congrArg some (by kernel_rfl))⟩
  f19 := Try.func53.trans (congrArg some (by kernel_rfl))
  f20 := Try.func54.trans (congrArg some (by kernel_rfl))
  f30 := ⟨Try.f55.name, by decide, Try.func55.trans (congrArg some (by kernel_rfl))⟩
  f31 := Try.func56.trans (congrArg some (by kernel_rfl))
  f32 := Try.func57.trans (congrArg some (by kernel_rfl))
  f33 := ⟨Try.f58.name, by decide, Try.func58.trans (congrArg some (by kernel_rfl))⟩
  f34 := ⟨Try.f59.name, by decide, Try.func59.trans (congrArg some (by kernel_rfl))⟩
  f35 := ⟨Try.f60.name, by decide, Try.func60.trans (congrArg some (by kernel_rfl))⟩
  f40 := ⟨Try.f61.name, by decide, Try.func61.trans (congrArg some (by kernel_rfl))⟩
  t0 := Try.underlying0
  a0 := Try.isAgg0
  z0 := Try.sizeOf0
  v0 := Try.zeroValue0
  t3 := Try.underlying3
  a3 := Try.isAgg3
  z3 := Try.sizeOf3
  v3 := Try.zeroValue3
  t4 := Try.underlying4
  a4 := Try.isAgg4
  z4 := Try.sizeOf4
  v4 := Try.zeroValue4
  t5 := Try.underlying5
  a5 := Try.isAgg5
  z5 := Try.sizeOf5
  v5 := Try.zeroValue5
  t9 := Try.underlying9
  a9 := Try.isAgg9
  z9 := Try.sizeOf9
  v9 := Try.zeroValue9
  t22 := Try.underlying22
  a22 := Try.isAgg22
  z22 := Try.sizeOf22
  v22 := Try.zeroValue22
  t23 := Try.underlying22
  a23 := Try.isAgg22
  z23 := Try.sizeOf22
  v23 := Try.zeroValue22
  t25 := Try.underlying3
  a25 := Try.isAgg3
  z25 := Try.sizeOf3
  v25 := Try.zeroValue3
  t32 := Try.underlying58
  a32 := Try.isAgg58
  z32 := Try.sizeOf58
  v32 := Try.zeroValue58
  t35 := Try.underlying95
  a35 := Try.isAgg95
  z35 := Try.sizeOf95
  v35 := Try.zeroValue95
  t36 := Try.underlying96
  a36 := Try.isAgg96
  z36 := Try.sizeOf96
  v36 := Try.zeroValue96
  t41 := Try.underlying78
  a41 := Try.isAgg78
  z41 := Try.sizeOf78
  v41 := Try.zeroValue78
  t44 := Try.underlying103
  a44 := Try.isAgg103
  z44 := Try.sizeOf103
  v44 := Try.zeroValue103
  t46 := Try.underlying105
  a46 := Try.isAgg105
  z46 := Try.sizeOf105
  v46 := Try.zeroValue105
  t53 := Try.underlying106
  a53 := Try.isAgg106
  z53 := Try.sizeOf106
  v53 := Try.zeroValue106
  t57 := Try.underlying110
  a57 := Try.isAgg110
  z57 := Try.sizeOf110
  v57 := Try.zeroValue110
  t63 := Try.underlying112
  a63 := Try.isAgg112
  z63 := Try.sizeOf112
  v63 := Try.zeroValue112
  t64 := Try.underlying113
  a64 := Try.isAgg113
  z64 := Try.sizeOf113
  v64 := Try.zeroValue113 }
end Go.Proofs

namespace Go.Proofs.Ytddfdefgdlfpmaa
open Go.RowKit Go.Maps Go.Sort Go.Shelf

/-- slices.Sort's two contracts at this dump, at the fence that asks nothing. -/
theorem sortsA (m : Nat) : AnyZI.SortsIn Try.prog Try.sortedA_ren Fence.wide m :=
  ⟨fun blk off cap ss W hH hblk hsz => callsIn_wide.2 (AnyM.slices_Sort_int Try.sortA blk off cap ss W hH hblk hsz),
   fun p cap W => callsIn_wide.2 (AnyM.slices_Sort_int_none Try.sortA p cap W)⟩
def IdsPost (D : DataW Unit) (w : World) (e : Ending) (w' : World) : Prop := ∃ (g : Option Addr) (cap : Nat), e = .returned (.slice g (intKeys D).length cap) ∧ Below w.heap.size w w'

set_option maxRecDepth 100000 in
set_option maxHeartbeats 1000000 in
theorem ids_any {B : Nat} {w : World} {hp mb : Nat} {P : PHp} {D : DataW Unit} {n : Nat} {vyo vyf voo vof vn : Value} (h : HpG B w hp mb P D n vyo vyf voo vof vn) (hmax : Maps.size D ≤ 1000000) :
    Calls Try.prog 14 #[.pointer (some ⟨hp, 0, none⟩)] w fun e w' => IdsPost D w e w' := by
  refine (callsIn_wide (n := 6)).1 ?_
  have hown := h.own
  have c9 : w.cell? ⟨hp, 9, none⟩ = some (.map (some mb)) := hcell h.at'.blk 9
  have hbl := hown.lt
  have hseq : SeqGives Fence.wide 2 Try.prog 40 #[.pointer (some ⟨w.heap.size, 0, none⟩)] encZ (fun ss => ss.Perm (intKeys D)) (Maps.size D) (w.alloc (.cells #[.map (some mb)] 49)) :=
    AnyZI.keys_gives (ρ := Try.keysA_ren) { Try.keysA with } Fence.wide _ trivial rfl (by omega) w.heap.size mb n D _ (by simp) (by simp) (by
      obtain ⟨es, clock, hb, Ft, hs, hD⟩ := hown
      exact ⟨es, clock, (Below.heap_alloc _ _ mb hbl).trans hb, Ft, hs, hD⟩)
  have cK : ∀ mb W, CallsIn Fence.wide 5 Try.prog 33 #[.map mb] W fun e w' => e = .returned (.func (.func 40) #[] #[.pointer (some ⟨W.heap.size, 0, none⟩)]) ∧ w' = W.alloc (.cells #[.map mb] 49) := fun mb W => AnyZI.keys_in Try.keysA Fence.wide 5 trivial rfl mb W
  have cS := AnyZI.sorted_in Try.sortedA Fence.wide 5 trivial trivial trivial trivial rfl (by omega) (sortsA _) (enters_of Try.func39 (by kernel_rfl) rfl) 40 #[.pointer (some ⟨w.heap.size, 0, none⟩)] trivial (enters_of Try.func40 (by kernel_rfl) rfl) _ _ (Nat.le_trans hmax (by decide)) (by omega) _ hseq
  change CallsIn _ _ Try.prog 32 _ _ _ at cS
  have hfK : Fence.wide.fn 33 := trivial
  have hfS : Fence.wide.fn 32 := trivial
  clear hseq
  refine callsIn_of_wp Try.func14 rfl trivial ?_ rfl
  simp only [Try.ntmps14, List.size_toArray, List.length_cons, List.length_nil, Nat.reduceAdd, Nat.reduceSub, Array.replicate_succ, Array.replicate_zero, List.push_toArray, List.append_toArray, List.nil_append, List.cons_append]
  gi_wp2_with (first
    | (gi_at_call 33; refine (cK _ _).mono ?_; rintro e w' ⟨rfl, rfl⟩)
    | (gi_at_call 32; refine cS.mono ?_; rintro e w' ⟨v, ss, rfl, hS, hrow, hnil, hb⟩))
  go_ret
  obtain ⟨g, cap, rfl⟩ := owns_form hrow
  refine ⟨g, cap, by rw [hS.length_eq]; rfl, ((Below.refl _ w).alloc (Nat.le_refl _) _).trans (hb.mono (by simp))⟩
end Go.Proofs.Ytddfdefgdlfpmaa

namespace Go.Proofs.Ytddfdefgdlfpmaa
open Go.RowKit Go.Maps

theorem pick_nat {w : World} {a : Int} {n : Nat} (h0 : 0 < n) (h1 : n ≤ 1000000) :
    Calls Try.prog 7 #[.int .i64 a, .int .i64 n] w fun e w' => ∃ p : Nat, p < n ∧ e = .returned (.int .i64 (p : Int)) ∧ w' = w := by
  refine (pick_any h0 h1).mono ?_
  rintro e w' ⟨rfl, rfl⟩
  have r0 : 0 ≤ a % 18446744073709551616 % (n : Int) := Int.emod_nonneg _ (by omega)
  have r1 : a % 18446744073709551616 % (n : Int) < n := Int.emod_lt_of_pos _ (by omega)
  exact ⟨(a % 18446744073709551616 % (n : Int)).toNat, by omega, by rw [Int.toNat_of_nonneg r0], rfl⟩
theorem St.allocs {w0 w : World} {hp mb : Nat} {P : PHp} {D : DataW Unit} {n : Nat} {vyo vyf va : Value} {i k : Nat} (h : St w0 w hp mb P D n vyo vyf va i k) (hi : i < 30) (tag : Int) {sz : Nat} (hsz : sz < 8) :
    Calls Try.prog 6 #[.pointer (some ⟨hp, 0, none⟩), .int .i64 2, .int .i64 tag, .int .i64 sz] w fun e w' => e = .returned (.tuple #[.int .i64 (1 + 2 * (i : Int)), .nilIface]) ∧ ∃ P' D' n' vo vf, St w0 w' hp mb P' D' n' vo vf va (i + 1) k := by
  have a1 := h.ph.fy
  have a2 := h.ph.fo
  have a3 := h.ph.ry
  have a4 : P.O.length = 0 := by rw [h.ph.old]; rfl
  have a5 : (allF P.O).length = 0 := by rw [h.ph.old]; rfl
  have a6 := h.ph.last
  have a7 := h.ph.len
  have a8 := h.ph.fs
  have a9 := h.few
  refine (alloc_any h.hpg (tag := tag) (sz := sz) (by omega) (by omega) (by omega) (by omega) (by omega) (by omega) (by omega) (by omega) (by omega) (by omega)).mono ?_
  rintro e w' ⟨rfl, q⟩
  exact ⟨by rw [a1, a7], h.alloc (by omega) q⟩
theorem nums_cell {w wr : World} {g : Option Addr} {l : List Int} (h : ∀ (k : Nat) (x : Int), l[k]? = some x → ∃ b o, g = some ⟨b, o, none⟩ ∧ w.cell? ⟨b, o + k, none⟩ = some (.int .i64 x)) (hb : Below w.heap.size w wr) {k : Nat} {x : Int} (hx : l[k]? = some x) : ∃ b o, g = some ⟨b, o, none⟩ ∧ wr.cell? ⟨b, o + k, none⟩ = some (.int .i64 x) := by
  obtain ⟨b, o, e, c⟩ := h k x hx
  exact ⟨b, o, e, cellk hb c (cell_lt (a := ⟨b, o + k, none⟩) c)⟩
theorem news_ref (W : World) (a : Int) : ∀ j u, (vCells ⟨4, a, ⟨#[]⟩⟩)[j]? = some u → (W.alloc (.cells #[.int .i64 4, .int .i64 a, .string ⟨#[]⟩] 34)).cell? ((⟨W.heap.size, 0, none⟩ : Addr).add j) = some u := fun j u hu => by
  have ea : (⟨W.heap.size, 0, none⟩ : Addr).add j = ⟨W.heap.size, j, none⟩ := by simp [Addr.add]; omega
  rw [ea, hcell (hnew W _) j]
  simpa [vCells] using hu
def ChPost (w : World) (e : Ending) (w' : World) : Prop := e = .returned (.bool true) ∧ Below w.heap.size w w'
theorem one_ref (a : Int) : ∀ u ∈ [Value.int .i64 4, .int .i64 a, .string ⟨#[]⟩], u.oneCell' = true := fun u hu => by
  simp at hu
  rcases hu with rfl | rfl | rfl <;> rfl

set_option maxRecDepth 100000 in
set_option maxHeartbeats 16000000 in
theorem cheney_none {w : World} {gs gk gl : Option Addr} {cs ck cl : Nat} {sizes links l : List Int} (h : sizes.length = 0 ∨ 30 < sizes.length ∨ 90 < links.length ∨ 12 < l.length) :
    Calls Try.prog 3 #[.slice gs sizes.length cs, .slice gk links.length ck, .slice gl l.length cl] w fun e w' => ChPost w e w' := by
  by_cases h1 : sizes.length = 0
  · go_enter Try.func3, Try.ntmps3
    go_wp2_with fail
    go_ret
    exact ⟨rfl, Below.refl _ _⟩
  by_cases h2 : 30 < sizes.length
  · go_enter Try.func3, Try.ntmps3
    go_wp2_with fail
    go_ret
    exact ⟨rfl, Below.refl _ _⟩
  by_cases h3 : 90 < links.length
  · go_enter Try.func3, Try.ntmps3
    go_wp2_with fail
    go_ret
    exact ⟨rfl, Below.refl _ _⟩
  by_cases h4 : 12 < l.length
  · go_enter Try.func3, Try.ntmps3
    go_wp2_with fail
    go_ret
    exact ⟨rfl, Below.refl _ _⟩
  · omega
end Go.Proofs.Ytddfdefgdlfpmaa

namespace Go.Proofs.Ytddfdefgdlfpmaa
open Go.RowKit Go.Maps

/-- A call of a Go function, as one step, behind a guard that lets it. -/
theorem step_enterG {P : Program} {ops : Array Oper} {Q : Exit → Act → World → Prop} {o : Oper} {a : Act} {w : World} {K : Act → World → Prop} {E : Prop} (hw : Region.wanted o (yielded ops a.tmps) = true) {F : FuncId} {args : Array Value} (hrun : (execOp a.eval o).run P w = .ok (.enter F args) w)
    (hc : Calls P F args w fun
      | .returned v, w'' => K (a.put o.dst v) w''
      | .panicked chain, w'' => Q (.panic chain) a w''
      | .outgrown, _ => LetsOut Q) : if Region.wanted o (yielded ops a.tmps) = true then Oper.wp P o a w K Q else E := by
  rw [if_pos hw]
  unfold Oper.wp
  rw [hrun]
  exact hc
/-- A value that may be set. -/
def Fit (i : Nat) (u : HV) : Prop := I64 u.n ∧ (u.kind = 4 → ∃ j : Nat, j < i ∧ u.n = 1 + 2 * (j : Int))
theorem St.sets {w0 w : World} {hp mb : Nat} {P : PHp} {D : DataW Unit} {n : Nat} {vyo vyf va : Value} {i k : Nat} (h : St w0 w hp mb P D n vyo vyf va i k) {p q : Nat} {x : HO} (hx : P.Y[p]? = some x) (hq : q < x.fs.length) {u : HV} (hu : Fit i u) :
    Calls Try.prog 9 #[.pointer (some ⟨hp, 0, none⟩), .int .i64 (1 + 2 * (p : Int)), .int .i64 q, .agg #[.int .i64 u.kind, .int .i64 u.n, .string u.s]] w fun e w' => e = .returned .nilIface ∧ (∃ P', St w0 w' hp mb P' D n vyo vyf va i k) ∧ (∀ k, k < w.heap.size → vyf.ownBlock ≠ some k → w'.heap[k]? = w.heap[k]?) := by
  have key : Calls Try.prog 9 #[.pointer (some ⟨hp, 0, none⟩), .int .i64 (P.fy + 2 * (p : Int)), .int .i64 q, .agg #[.int .i64 u.kind, .int .i64 u.n, .string u.s]] w fun e w' => e = .returned .nilIface ∧ SetG w0.heap.size w hp mb P D n (beginAt P.Y p + q) u vyo vyf (.slice none 0 0) (.slice none 0 0) (.slice none 0 0) w' := by
    by_cases hk : u.kind = 4
    · refine set_ref h.hpg hx hq u hu.1 hk fun r hr => ?_
      obtain ⟨j, hj, e⟩ := hu.2 hk
      obtain ⟨y, hy, _⟩ := h.ph.obj hj
      have hl : j < P.Y.length := by rw [h.ph.len]; exact hj
      rw [e] at hr
      have := found_young h.hpg.small hl (r := r) (by rw [h.ph.fy]; exact hr)
      subst this
      exact ⟨_, y, objOf_young hy, by rw [(h.ph.ids j y hy).2]; decide⟩
    · exact set_val h.hpg hx hq u hu.1 hk
  rw [h.ph.fy] at key
  refine key.mono ?_
  rintro e w' ⟨rfl, hs⟩
  exact ⟨rfl, ⟨_, h.set hu.2 hs⟩, hs.2.1⟩
end Go.Proofs.Ytddfdefgdlfpmaa

namespace Go.Proofs.Ytddfdefgdlfpmaa
open Go.RowKit Go.Maps

theorem Good.keyed {P : PHp} {D : DataW Unit} (g : Good P D) {w : World} {mb n : Nat} (ho : w.ownsMap Try.prog 3 (plainElem Try.prog 3) mb n D) : (intKeys D).length = (P.Y ++ P.O).length := by
  have hc : CollectedI D (fun _ => false) ((P.Y ++ P.O).map HO.id) := ⟨g.nd, fun x => by
    rw [g.keys x]
    simp only [and_true]
    exact List.mem_map⟩
  rw [← (hc.perm ho keyIntS Try.underlying3 (fun _ => rfl)).length_eq, List.length_map]
/-- Memory between collections: t of them were. -/
structure Co (w0 w : World) (hp mb rb sb : Nat) (vw : Value) (out seen : List Int) (t : Nat) (P : PHp) (D : DataW Unit) (n : Nat) (vyo vyf voo vof : Value) (root : HV) : Prop where
  hpg : HpG w0.heap.size w hp mb P D n vyo vyf voo vof (.slice none 0 0)
  good : Good P D
  shape : shp P 1000 root [] = some (out, seen)
  leads : Leads P root
  fuel : left (P.Y ++ P.O) [] < 1000
  rk : root.kind = 4
  noted : P.noted = []
  phase : P.O = [] ∨ P.Y = []
  rt : RootAt w rb root
  nf : vyf.ownBlock ≠ some rb ∧ vof.ownBlock ≠ some rb
  sn : SeenAt w sb seen
  sm : sb ≠ mb
  was : w.ownsRow w0.heap.size 3 1 vw out.length (out.map iv')
  bel : Below w0.heap.size w0 w
  hp0 : w0.heap.size ≤ hp
  mb0 : w0.heap.size ≤ mb
  rb0 : w0.heap.size ≤ rb
  ro : P.ro = 2000
  few : P.Y.length + P.O.length ≤ 30
  cells : P.Y.length + (allF P.Y).length + (P.O.length + (allF P.O).length) ≤ 240
  nn : n ≤ 30 + 30 * t
  fo : P.fo ≤ 2 + 60 * t
  so : out.length ≤ 2000
  ss : seen.length ≤ 1000
section
variable {w0 w w' : World} {hp mb rb sb : Nat} {vw : Value} {out seen : List Int} {t : Nat} {P : PHp} {D : DataW Unit} {n : Nat} {vyo vyf voo vof : Value} {root : HV}
theorem Co.keep (h : Co w0 w hp mb rb sb vw out seen t P D n vyo vyf voo vof root) (hb : Below w.heap.size w w') : Co w0 w' hp mb rb sb vw out seen t P D n vyo vyf voo vof root :=
  { h with hpg := h.hpg.keep hb, rt := h.rt.move (hb.block _ h.rt.ty.lt), sn := h.sn.keep (hb.block _ h.sn.lt), was := owns_keep h.was hb, bel := h.bel.trans (hb.mono h.bel.size) }
theorem Co.i64 (h : Co w0 w hp mb rb sb vw out seen t P D n vyo vyf voo vof root) : I64 root.n := by
  obtain ⟨x, hx⟩ := h.leads h.rk
  exact objA_i64 h.hpg.small hx
theorem Co.nums (h : Co w0 w hp mb rb sb vw out seen t P D n vyo vyf voo vof root) : Nums P := fun x hx => by
  have := h.good.pos x hx
  exact ⟨⟨by omega, by omega⟩, (h.hpg.vals x hx).2⟩
theorem Co.free (h : Co w0 w hp mb rb sb vw out seen t P D n vyo vyf voo vof root) {gb m : Nat} {cs : Array Value} {fr : Nat × Nat} (hg : w.heap[gb]? = some (.cells cs 40 fr)) (hc : ∀ k, k < m → cs[k]? = some (.pointer (some ⟨rb, 0, none⟩))) (hm : m ≤ 1000) : RtFree w hp mb vyo vyf voo vof (some ⟨gb, 0, none⟩) (rts m rb root) :=
  rt_free hg hc h.rt h.nf.1 h.nf.2 h.i64 hm
/-- What is not the heap's stays. -/
theorem Co.stay (h : Co w0 w hp mb rb sb vw out seen t P D n vyo vyf voo vof root) {m : Nat} (hk : ∀ k, k < w.heap.size → k ≠ hp → k ≠ mb → voo.ownBlock ≠ some k → vof.ownBlock ≠ some k → ¬ rootB (rts m rb root) k → w'.heap[k]? = w.heap[k]?) : SeenAt w' sb seen ∧ w'.ownsRow w0.heap.size 3 1 vw out.length (out.map iv') := by
  have tH : Typ w hp 51 := ⟨_, _, h.hpg.at'.blk⟩
  obtain ⟨es, cl, m1, _⟩ := h.hpg.own
  obtain ⟨es2, cl2, m2⟩ := h.sn.blk
  have ns : ∀ {j ty}, Typ w j ty → sb ≠ j := fun hj e => not_map m2 hj e.symm
  refine ⟨h.sn.keep (hk sb h.sn.lt (ns tH) h.sm (fun e => ns (owns_ty h.hpg.at'.oo e) rfl) (fun e => ns (owns_ty h.hpg.at'.of' e) rfl) (root_not (ns h.rt.ty))), owns_move h.was fun j hj => ?_⟩
  have tj := owns_ty h.was hj
  exact hk j tj.lt (tj.ne tH (by decide)) (not_map m1 tj) (fun e => tj.ne (owns_ty h.hpg.at'.oo e) (by decide) rfl) (fun e => tj.ne (owns_ty h.hpg.at'.of' e) (by decide) rfl) (root_not (tj.ne h.rt.ty (by decide)))
theorem Co.major (h : Co w0 w hp mb rb sb vw out seen t P D n vyo vyf voo vof root) (ht : t ≤ 12) {g : Option Addr} {m : Nat} (hm : 0 < m) (q : MajorPost w0.heap.size P D n hp mb g (rts m rb root) w w') : ∃ P' D' n' vyo' vyf' voo' vof' root', Co w0 w' hp mb rb sb vw out seen (t + 1) P' D' n' vyo' vyf' voo' vof' root' ∧ (intKeys D').length = seen.length := by
  have hb := q.below h.hpg h.hp0 h.mb0 h.rb0
  have e1 := h.fo
  have e2 := h.few
  have e3 := h.cells
  have e4 := h.nn
  obtain ⟨M, n', vto, vtf, mj, h6, hn, hI, hL, hft, he, hW, f1, f2, hR, a1, a2, hk, hs, _⟩ := q.next h.hpg (by omega)
  have hw := hW rb 0 root (rts_in hm)
  obtain ⟨kp, hcnt⟩ := kept_major h.good h.hpg.own.isMap h.hpg.small h.hpg.two (l := rootVs (rts m rb root)) (fun v hv => rts_vs hv) he hI hL hft hw mj h.fuel h.leads h.shape
  obtain ⟨s1, s2⟩ := h.stay (w' := w') (m := m) (fun k k1 k2 k3 _ _ k6 => hk k k1 k2 k3 k6)
  have hrl := h.rt.ty.lt
  refine ⟨majP P M.T mj, _, n', _, _, vto, vtf, phi M.L root, ⟨h6, kp.good, kp.shape, kp.leads, kp.fuel, (phi_kind M.L root).1.trans h.rk, rfl, Or.inr rfl, root_now hR hm, ⟨by simp [Value.ownBlock], fun e => by have := a2 rb e; omega⟩, s1, h.sm, s2, h.bel.trans hb, h.hp0, h.mb0, h.rb0, h.ro, ?_, ?_, ?_, ?_, h.so, h.ss⟩, ?_⟩
  · simp only [majP, List.length_nil]; omega
  · simp only [majP, show allF [] = [] from rfl, List.length_nil]
    have hroom : M.T.length + (allF M.T).length ≤ 240 := by omega
    omega
  · omega
  · simp only [majP]; omega
  · rw [kp.good.keyed h6.own]
    simp only [majP, List.nil_append]
    exact hcnt
theorem Co.minor (h : Co w0 w hp mb rb sb vw out seen t P D n vyo vyf voo vof root) (ht : t ≤ 12) {g : Option Addr} {m : Nat} (hm : 0 < m) (q : MinorPost w0.heap.size P D n hp mb g (rts m rb root) voo vof w w') : ∃ P' D' n' vyo' vyf' voo' vof' root', Co w0 w' hp mb rb sb vw out seen (t + 1) P' D' n' vyo' vyf' voo' vof' root' := by
  have hb := q.below h.hpg h.hp0 h.mb0 h.rb0
  have e1 := h.fo
  have e2 := h.few
  have e3 := h.cells
  have e4 := h.nn
  obtain ⟨M, n', vto, vtf, mn, h6, hn, hI, hL, hft, he, _, _, hW, f1, f2, hR, a1, a2, hk, hs, _⟩ := q.next h.hpg (by omega)
  have hw := hW rb 0 root (rts_in hm)
  have kp : Kept P (minP P M.T mn) (idsAll D M.L) 1000 (phi M.L root) out seen := by
    rcases h.phase with hO | hY
    · exact kept_minor h.good h.hpg.own.isMap h.hpg.two hO he hI hL hft hw mn h.fuel h.leads h.shape
    · exact kept_same h.good hY he mn h.fuel h.leads h.shape
  obtain ⟨s1, s2⟩ := h.stay (w' := w') (m := m) hk
  have hrl := h.rt.ty.lt
  refine ⟨minP P M.T mn, _, n', _, _, vto, vtf, phi M.L root, ⟨h6, kp.good, kp.shape, kp.leads, kp.fuel, (phi_kind M.L root).1.trans h.rk, rfl, Or.inr rfl, root_now hR hm, ⟨by simp [Value.ownBlock], fun e => ?_⟩, s1, h.sm, s2, h.bel.trans hb, h.hp0, h.mb0, h.rb0, h.ro, ?_, ?_, ?_, ?_, h.so, h.ss⟩⟩
  · rcases a2 with r | r
    · rw [r] at e
      exact h.nf.2 e
    · have := r rb e
      omega
  · simp only [minP, List.length_nil]; omega
  · simp only [minP, show allF [] = [] from rfl, List.length_nil]
    omega
  · omega
  · simp only [minP]; omega
end
theorem nums_of_row {w : World} {B g n cap : Nat} {l : List Int} (h : w.ownsRow B 3 1 (.slice (some ⟨g, 0, none⟩) n cap) l.length (l.map iv')) (hn : n = l.length) : NumsAt w (.slice (some ⟨g, 0, none⟩) l.length cap) l := by
  subst hn
  refine ⟨_, _, rfl, fun k x hx => ⟨g, 0, rfl, ?_⟩⟩
  have hk := (List.getElem?_eq_some_iff.1 hx).1
  obtain ⟨g', cap', e', _, hc, _⟩ := owns_get h (j := k) (by omega)
  cases e'
  rw [Nat.zero_add, hc, List.getElem?_map, hx]
  rfl
theorem HpG.grownMap {B : Nat} {w w' : World} {hp mb sb : Nat} {P : PHp} {D : DataW Unit} {n : Nat} {vyo vyf voo vof vn : Value} (h : HpG B w hp mb P D n vyo vyf voo vof vn) (hm : ∃ es cl, w.heap[sb]? = some (.map es cl)) (hne : sb ≠ mb) (hg : w.grownBy w' (some sb)) : HpG B w' hp mb P D n vyo vyf voo vof vn := by
  obtain ⟨es, cl, m1, m2⟩ := h.own
  exact ⟨h.at'.grown hm hg, ⟨es, cl, (hg.block mb (hlt m1) (fun e => hne (Option.some.inj e).symm)).trans m1, m2⟩, h.ao, h.af, h.small, h.few, h.two, h.cnt, h.pot, h.top, h.vals, Nat.le_trans h.hB hg.size⟩
theorem owns_base {w : World} {B B' : Nat} {e : TypeId} {k : Nat} {v : Value} {n : Nat} {xs : List Value} (h : w.ownsRow B e k v n xs) (hb : B' ≤ B) : w.ownsRow B' e k v n xs :=
  ⟨h.1, h.2.imp id (fun ⟨g', c', cur, q1, q2, q3⟩ => ⟨g', c', cur, q1, by omega, q3⟩)⟩
/-- The first shape: all that the first object leads to. -/
theorem St.shape {w0 w : World} {hp mb : Nat} {P : PHp} {D : DataW Unit} {n : Nat} {vyo vyf va : Value} {i k : Nat} (h : St w0 w hp mb P D n vyo vyf va i k) (h0 : 0 < i) (hi : i ≤ 30) : ∃ out seen, shp P 1000 ⟨4, 1, ⟨#[]⟩⟩ [] = some (out, seen) ∧ Leads P ⟨4, 1, ⟨#[]⟩⟩ ∧ left (P.Y ++ P.O) [] < 1000 ∧ out.length ≤ 2000 ∧ seen.length ≤ 1000 := by
  have hYO : P.Y ++ P.O = P.Y := by rw [h.ph.old, List.append_nil]
  have g := h.ph.good hi
  have hl : left (P.Y ++ P.O) [] < 1000 := by
    rw [hYO, left_nil, h.ph.len]
    have := h.ph.fs
    omega
  have hr : Leads P ⟨4, 1, ⟨#[]⟩⟩ := fun _ => by
    obtain ⟨x, _, hx⟩ := h.ph.obj h0
    exact ⟨x, hx⟩
  obtain ⟨r, e, ⟨_, a2, a3, _⟩, _, a6⟩ := shape_ok g.uniq g.tied 1000 ⟨4, 1, ⟨#[]⟩⟩ [] hr hl
  refine ⟨r.1, r.2, e, hr, hl, by omega, ?_⟩
  have := sub_length (a2 List.nodup_nil) (l' := (P.Y ++ P.O).map HO.id) (fun a ha => by
    rcases a3 a ha with q | ⟨x, hx, e⟩
    · cases q
    · exact List.mem_map.2 ⟨x, hx, e⟩)
  rw [List.length_map, hYO, h.ph.len] at this
  omega
theorem St.co {w0 w w' : World} {hp mb rb sb : Nat} {P : PHp} {D : DataW Unit} {n : Nat} {vyo vyf va vw : Value} {i k : Nat} (h : St w0 w hp mb P D n vyo vyf va i k) (h0 : 0 < i) (hi : i ≤ 30) {out seen : List Int} (hsh : shp P 1000 ⟨4, 1, ⟨#[]⟩⟩ [] = some (out, seen)) (hl : Leads P ⟨4, 1, ⟨#[]⟩⟩) (hf : left (P.Y ++ P.O) [] < 1000) (ho : out.length ≤ 2000) (hs : seen.length ≤ 1000)
    (hr : RootAt w rb ⟨4, 1, ⟨#[]⟩⟩) (hn : vyf.ownBlock ≠ some rb) (hrb : w0.heap.size ≤ rb) (hm : ∃ es cl, w.heap[sb]? = some (.map es cl)) (hne : sb ≠ mb) (hg : w.grownBy w' (some sb)) (hsn : SeenAt w' sb seen) (hw : w'.ownsRow w0.heap.size 3 1 vw out.length (out.map iv')) (hsb : w0.heap.size ≤ sb) :
    Co w0 w' hp mb rb sb vw out seen 0 P D n vyo vyf (.slice none 0 0) (.slice none 0 0) ⟨4, 1, ⟨#[]⟩⟩ := by
  have a1 := h.ph.len
  have a2 : P.O.length = 0 := by rw [h.ph.old]; rfl
  have a3 : (allF P.O).length = 0 := by rw [h.ph.old]; rfl
  have a4 := h.ph.fs
  have a5 := h.few
  have a6 := h.ph.fo
  obtain ⟨es, cl, m⟩ := hm
  refine ⟨h.hpg.grownMap ⟨es, cl, m⟩ hne hg, h.ph.good hi, hsh, hl, hf, rfl, h.ph.noted, Or.inl h.ph.old, hr.move (hg.block _ hr.ty.lt (fun e => not_map m hr.ty (Option.some.inj e))), ⟨hn, by simp [Value.ownBlock]⟩, hsn, hne, hw, ⟨hg.os.trans h.bel.os, hg.tape.trans h.bel.tape, hg.output.trans h.bel.output, Nat.le_trans h.bel.size hg.size, fun j hj => (hg.block j (Nat.lt_of_lt_of_le hj h.bel.size) (fun e => by have := Option.some.inj e; omega)).trans (h.bel.block j hj)⟩, h.hp0, h.mb0, hrb, h.ph.ro, by omega, by omega, by omega, by omega, ho, hs⟩
theorem below_made {w w' : World} {o : Obj} (hg : (w.alloc o).grownBy w' (some w.heap.size)) : Below w.heap.size w w' :=
  ⟨hg.os, hg.tape, hg.output, Nat.le_trans (by simp) hg.size, fun k hk => (hg.block k (by simp; omega) (fun e => by have := Option.some.inj e; omega)).trans (Below.heap_alloc _ _ k hk)⟩
theorem two_ptrs (rb : Nat) : ∀ k : Nat, k < 2 → (#[Value.pointer (some ⟨rb, 0, none⟩), .pointer (some ⟨rb, 0, none⟩)] : Array Value)[k]? = some (.pointer (some ⟨rb, 0, none⟩))
  | 0, _ => rfl
  | 1, _ => rfl
  | _ + 2, h => by omega
theorem one_ptr (rb : Nat) : ∀ k : Nat, k < 1 → (#[Value.pointer (some ⟨rb, 0, none⟩)] : Array Value)[k]? = some (.pointer (some ⟨rb, 0, none⟩))
  | 0, _ => rfl
  | _ + 1, h => by omega
theorem SeenAt.len {w : World} {b : Nat} {seen : List Int} (h : SeenAt w b seen) (ty : TypeId) : (Builtin.len_ #[37] ty #[.map (some b)]).run Try.prog w = .ok (.int .i64 seen.length) w := by
  obtain ⟨D, h1, h2, _⟩ := h
  rw [h1.len Try.underlying37, h2]
end Go.Proofs.Ytddfdefgdlfpmaa
