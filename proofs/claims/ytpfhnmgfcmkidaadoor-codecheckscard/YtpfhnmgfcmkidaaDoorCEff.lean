/-
  The document's table of instructions (one).
-/
import Derived.Test.YtpfhnmgfcmkidaaDoorCRef
namespace Go.Proofs.YtpfhnmgfcmkidaaDoor
open Go.RowKit

/-- What 'effect' answers. -/
def EffPost (m : PM) (f : PF) (i : PI) (w : World) (e : Ending) (w' : World) : Prop :=
  ∃ t l to' th on, e = .returned (.tuple #[.bool (nameOk m f.slots f.code.length i), .int .i64 t, .int .i64 l, .int .i64 to', .int .i64 th, .bool on]) ∧ (nameOk m f.slots f.code.length i = true → t = takes i ∧ l = leaves i ∧ to' = goesTo i ∧ th = there i ∧ on = goesOn i) ∧ Below w.heap.size w w'
theorem EffPost.mk {m : PM} {f : PF} {i : PI} {w w' : World} {c : Bool} {t l to' th : Int} {on : Bool} (hc : c = nameOk m f.slots f.code.length i) (ht : c = true → t = takes i) (hr : l = leaves i ∧ to' = goesTo i ∧ th = there i ∧ on = goesOn i) (h : Below w.heap.size w w') :
    EffPost m f i w (.returned (.tuple #[.bool c, .int .i64 t, .int .i64 l, .int .i64 to', .int .i64 th, .bool on])) w' :=
  ⟨t, l, to', th, on, by rw [hc], fun hk => ⟨ht (hc.trans hk), hr.1, hr.2.1, hr.2.2.1, hr.2.2.2⟩, h⟩
theorem EffPost.no {m : PM} {f : PF} {i : PI} {w w' : World} {t l to' th : Int} {on : Bool} (hc : nameOk m f.slots f.code.length i = false) (h : Below w.heap.size w w') :
    EffPost m f i w (.returned (.tuple #[.bool false, .int .i64 t, .int .i64 l, .int .i64 to', .int .i64 th, .bool on])) w' :=
  ⟨t, l, to', th, on, by rw [hc], fun hk => (by rw [hc] at hk; cases hk), h⟩
/-- What is asked of the memory when it is asked. -/
structure EffAsk (w : World) (b : Nat) (m : PM) (vf vc vk : Value) (f : PF) (g3 g4 g5 : Option Addr) (p3 p4 p5 : Nat) : Prop where
  img : ImgAt w b m vf vc vk
  h1 : m.funcs.length ≤ 250
  h2 : m.consts.length ≤ 1000
  h3 : m.classes.length ≤ 250
  h4 : f.code.length ≤ 5000
  h5 : 0 ≤ f.slots
  h6 : f.slots ≤ 200
theorem below3 {w : World} (a b c : Obj) (n : Nat) : Below w.heap.size w ((((w.alloc a).alloc b).alloc c).drewN n) :=
  Bl.drewN ((((Below.refl _ _).alloc (Nat.le_refl _) a).alloc (by simp) b).alloc (by simp; omega) c) n
theorem cell_al3 {w : World} {a : Addr} {v : Value} (h : w.cell? a = some v) : ∀ o p q, (((w.alloc o).alloc p).alloc q).cell? a = some v := fun o p q => cell_al (cell_al (cell_al h o) p) q
theorem within_bl {n m : Int} {c : Bool} (h : belowB n m = c) (w : World) : Calls Tryd.prog 16 #[.int .i64 n, .int .i64 0, .int .i64 (m - 1)] w fun e w' => e = .returned (.bool c) ∧ w = w' := within_is ((inB_below n m).trans h) w
theorem within_cl {m : PM} {n : Int} {c : Bool} (h : callB m n = c) (w : World) : Calls Tryd.prog 16 #[.int .i64 n, .int .i64 1, .int .i64 (m.funcs.length - 1)] w fun e w' => e = .returned (.bool c) ∧ w = w' := within_is ((call_in m n).trans h) w
theorem eff_box (w : World) (a b : Obj) (cs : Array Value) {t : TypeId} (j : Nat) : (((w.alloc a).alloc b).alloc (.cells cs t)).cell? ⟨w.heap.size + 1 + 1, j, none⟩ = cs[j]? := by
  have e : ((w.alloc a).alloc b).heap.size = w.heap.size + 1 + 1 := by simp
  rw [← e]; exact hcell (hnew _ _) j
theorem mkf (fn : Fn) (first cap : Array Value) (w : World) : (Go.Instr.makeFunc fn first cap).run Tryd.prog w = .ok (.func fn first cap) w := rfl

set_option maxRecDepth 100000 in
set_option maxHeartbeats 4000000 in
theorem ef_1 {w : World} {b : Nat} {m : PM} {vf vc vk : Value} {f : PF} {g3 g4 g5 : Option Addr} {p3 p4 p5 : Nat} (h : EffAsk w b m vf vc vk f g3 g4 g5 p3 p4 p5) (x y : Int) :
    Calls Tryd.prog 30 #[.pointer (some ⟨b, 0, none⟩), .agg #[.string f.name, .int .i64 f.params, .int .i64 f.slots, .slice g3 f.code.length p3, .slice g4 f.hands.length p4, .slice g5 f.vars.length p5], .agg #[.int .i64 1, .int .i64 x, .int .i64 y]] w fun e w' => EffPost m f ⟨1, x, y⟩ w e w' := by
  obtain ⟨hI, h1, h2, h3, h4, h5, h6⟩ := h
  obtain ⟨_, ⟨gf, cf, rfl, _, _⟩, _⟩ := hI.img.funcs
  obtain ⟨gc, cc, rfl, _, _⟩ := hI.img.consts
  obtain ⟨_, ⟨gk, ck, rfl, _, _⟩, _⟩ := hI.img.classes
  have c0 := cell_al3 hI.c0
  have c1 := cell_al3 hI.c1
  have c2 := cell_al3 hI.c2
  have H := hide hI
  have hmf := mkf
  clear hI
  obtain ⟨bf, qf⟩ : ∃ c, inB y 0 50 = c := ⟨_, rfl⟩
  obtain ⟨bs, qs⟩ : ∃ c, belowB x f.slots = c := ⟨_, rfl⟩
  obtain ⟨ba, qa⟩ : ∃ c, belowB x f.code.length = c := ⟨_, rfl⟩
  obtain ⟨bn, qn⟩ : ∃ c, callB m x = c := ⟨_, rfl⟩
  go_enter Tryd.func30, Tryd.ntmps30
  go_wp2_with fail
  refine (within_is qf _).mono ?_
  rintro e wa ⟨rfl, rfl⟩
  go_wp2_with fail
  refine (within_bl qs _).mono ?_
  rintro e wa ⟨rfl, rfl⟩
  go_wp2_with fail
  refine (within_bl qa _).mono ?_
  rintro e wa ⟨rfl, rfl⟩
  go_wp2_with fail
  go_quiet ((go_at_call 16; exact Calls.quiet_of_same (same_back (within_cl qn _))))
  go_wp2_with fail
  exact bodyPost_ret (v := .tuple #[.bool true, .int .i64 0, .int .i64 0, .int .i64 (-1), .int .i64 0, .bool true]) (by simp [results, Tryd.results30, go_sem]) rfl (EffPost.mk rfl (fun _ => rfl) ⟨rfl, rfl, rfl, rfl⟩ (below3 _ _ _ _))
end Go.Proofs.YtpfhnmgfcmkidaaDoor
