/-
  errors.As at a number: closed facts, and the entries that read or write memory.
  errors.As at a number, walked; what an error tells, and its place.
  errors.As at an error with a place.
  What an error tells, and its place.
  SyntaxBack, of any text.
-/
import Derived.Test.YtndgajlidckcdaaGreatDoorB31
import Derived.LaidEql
import Derived.Stop.Asserts
import Derived.RowKitTokens
namespace Go.Proofs.YtndgajlidckcdaaGreatDoor
open Go.RowKit Go.Extern.Stop Go.Stop Go.Extern
theorem cell_lt {w : World} {a : Addr} {v : Value} (h : w.cell? a = some v) : a.block < w.heap.size := World.block_lt_of_cell? w _ h
theorem cellk {B : Nat} {w w' : World} (hb : Below B w w') {a : Addr} {v : Value} (h : w.cell? a = some v) (hl : a.block < B) : w'.cell? a = some v := (hb.cell hl).trans h
theorem cell_al {w : World} {a : Addr} {v : Value} (h : w.cell? a = some v) : ∀ o, (w.alloc o).cell? a = some v := fun o => by
  rw [World.cell?_alloc_lt _ _ a (cell_lt h)]; exact h
/-- An error and its place, in memory. -/
def ErrAt (w : World) (v : Value) (e p : Int) : Prop :=
  (v = .nilIface ∧ e = 0 ∧ p = -1) ∨ (v = .iface 23 (.int .i64 e) ∧ p = -1) ∨
  (∃ b, v = .iface 122 (.pointer (some ⟨b, 0, none⟩)) ∧ w.cell? ⟨b, 0, none⟩ = some (.int .i64 e) ∧ w.cell? ⟨b, 1, none⟩ = some (.int .i64 p))
theorem ErrAt.keep {w w' : World} {v : Value} {e p : Int} (h : ErrAt w v e p) (hb : Below w.heap.size w w') : ErrAt w' v e p := by
  rcases h with h | h | ⟨b, h1, h2, h3⟩
  · exact Or.inl h
  · exact Or.inr (Or.inl h)
  · exact Or.inr (Or.inr ⟨b, h1, cellk hb h2 (cell_lt h2), cellk hb h3 (cell_lt h3)⟩)



theorem as_nil (t : Value) (w : World) : Calls Tryz.prog 48 #[.nilIface, t] w fun e w' => e = .returned (.bool false) ∧ w' = w := by
  go_enter Tryz.func48, Tryz.ntmps48
  go_wp2_with fail
  go_ret
  exact ⟨rfl, rfl⟩

theorem valueOfP (t : Addr) (w : World) : (ReflectliteValue.unpack (.iface 93 (.pointer (some t)))).run Tryz.prog w
    = .ok (.agg #[.pointer (some ⟨16, 93, none⟩), .pointer (some ⟨w.heap.size, 0, none⟩), .int .u64 150]) (w.alloc (.cells #[.pointer (some t)] 93)) := by kernel_rfl
theorem typeP (a : Addr) (w : World) : (ReflectliteValue.methodAny (ReflectliteValue.valueError "reflectlite.Value.Type" 0) (fun t _ _ _ => ReflectliteType.toType t) #[.agg #[.pointer (some ⟨16, 93, none⟩), .pointer (some a), .int .u64 150]]).run Tryz.prog w
    = .ok (.iface 190 (.agg #[.pointer (some ⟨16, 93, none⟩)])) w := by kernel_rfl
theorem kindP (w : World) : ((ReflectliteType.abiMethod fun t => Functor.map (fun a : Nat => Value.int IntKind.u8 (a : Int)) (Rtype.kind t)) #[.pointer (some ⟨16, 93, none⟩)]).run Tryz.prog w = .ok (.int .u8 22) w := by kernel_rfl
theorem kindE (w : World) : ((ReflectliteType.abiMethod fun t => Functor.map (fun a : Nat => Value.int IntKind.u8 (a : Int)) (Rtype.kind t)) #[.pointer (some ⟨16, 23, none⟩)]).run Tryz.prog w = .ok (.int .u8 2) w := by kernel_rfl
theorem partsP (a : Addr) (w : World) : (ReflectliteValue.parts (.agg #[.pointer (some ⟨16, 93, none⟩), .pointer (some a), .int .u64 150])).run Tryz.prog w = .ok (some (93, a, 150)) w := by kernel_rfl
theorem isNilP (a p : Addr) (W : World) (ha : W.cell? a = some (.pointer (some p))) :
    (ReflectliteValue.method (ReflectliteValue.valueError "reflectlite.Value.IsNil" 0) ReflectliteValue.isNil #[.agg #[.pointer (some ⟨16, 93, none⟩), .pointer (some a), .int .u64 150]]).run Tryz.prog W = .ok (.bool false) W := by
  refine (congrArg (fun s : Sem Value => s.run Tryz.prog W) (show ReflectliteValue.method _ _ _ = (ReflectliteValue.parts (.agg #[.pointer (some ⟨16, 93, none⟩), .pointer (some a), .int .u64 150]) >>= _) from rfl)).trans ?_
  simp only [Sem.run_bind, partsP, Result.andThen]
  simp [ReflectliteValue.isNil, loadVar, isAgg, underlying, Tryz.underlying93, ha, Result.andThen]
theorem elemP (w : World) : (ReflectliteType.method ReflectliteType.elem #[.agg #[.pointer (some ⟨16, 93, none⟩)]]).run Tryz.prog w = .ok (.iface 190 (.agg #[.pointer (some ⟨16, 23, none⟩)])) w := by kernel_rfl
theorem implementsE (w : World) : (ReflectliteType.relation "Implements" ReflectliteType.implements_ #[.agg #[.pointer (some ⟨16, 23, none⟩)], .iface 190 (.agg #[.pointer (some ⟨16, 29, none⟩)])]).run Tryz.prog w = .ok (.bool true) w := by kernel_rfl
theorem typeOfE (v : Value) (w : World) : (ReflectliteType.typeOf #[.iface 23 v]).run Tryz.prog w = .ok (.iface 190 (.agg #[.pointer (some ⟨16, 23, none⟩)])) w := by kernel_rfl
theorem typeOfA (v : Value) (w : World) : (ReflectliteType.typeOf #[.iface 122 v]).run Tryz.prog w = .ok (.iface 190 (.agg #[.pointer (some ⟨16, 122, none⟩)])) w := by kernel_rfl
theorem assignE (w : World) : (ReflectliteType.relation "AssignableTo" ReflectliteType.assignableTo #[.agg #[.pointer (some ⟨16, 23, none⟩)], .iface 190 (.agg #[.pointer (some ⟨16, 23, none⟩)])]).run Tryz.prog w = .ok (.bool true) w := by kernel_rfl
theorem assignA (w : World) : (ReflectliteType.relation "AssignableTo" ReflectliteType.assignableTo #[.agg #[.pointer (some ⟨16, 122, none⟩)], .iface 190 (.agg #[.pointer (some ⟨16, 23, none⟩)])]).run Tryz.prog w = .ok (.bool false) w := by kernel_rfl
theorem valueOfE (n : Int) (w : World) : (ReflectliteValue.unpack (.iface 23 (.int .i64 n))).run Tryz.prog w
    = .ok (.agg #[.pointer (some ⟨16, 23, none⟩), .pointer (some ⟨w.heap.size, 0, none⟩), .int .u64 130]) (w.alloc (.cells #[.int .i64 n] 23)) := by kernel_rfl
theorem elemOfP (w : World) : (Rtype.elem? 93).run Tryz.prog w = .ok (some 23) w := by kernel_rfl
theorem mkE (p : Addr) (w : World) : (ReflectliteValue.mk 23 p ReflectliteValue.flagAddr).run Tryz.prog w = .ok (.agg #[.pointer (some ⟨16, 23, none⟩), .pointer (some p), .int .u64 386]) w := by kernel_rfl
theorem elemVP (a p : Addr) (W : World) (ha : W.cell? a = some (.pointer (some p))) :
    (ReflectliteValue.method (ReflectliteValue.valueError "reflectlite.Value.Elem" 0) ReflectliteValue.elem #[.agg #[.pointer (some ⟨16, 93, none⟩), .pointer (some a), .int .u64 150]]).run Tryz.prog W
      = .ok (.agg #[.pointer (some ⟨16, 23, none⟩), .pointer (some p), .int .u64 386]) W := by
  refine (congrArg (fun s : Sem Value => s.run Tryz.prog W) (show ReflectliteValue.method _ _ _ = (ReflectliteValue.parts (.agg #[.pointer (some ⟨16, 93, none⟩), .pointer (some a), .int .u64 150]) >>= _) from rfl)).trans ?_
  simp only [Sem.run_bind, partsP, Result.andThen]
  simp [ReflectliteValue.elem, loadVar, isAgg, underlying, Tryz.underlying93, ha, Result.andThen, elemOfP, mkE]
theorem partsEa (a : Addr) (w : World) : (ReflectliteValue.parts (.agg #[.pointer (some ⟨16, 23, none⟩), .pointer (some a), .int .u64 386])).run Tryz.prog w = .ok (some (23, a, 386)) w := by kernel_rfl
theorem partsE (a : Addr) (w : World) : (ReflectliteValue.parts (.agg #[.pointer (some ⟨16, 23, none⟩), .pointer (some a), .int .u64 130])).run Tryz.prog w = .ok (some (23, a, 130)) w := by kernel_rfl
theorem directE (w : World) : (Rtype.directlyAssignable 23 23).run Tryz.prog w = .ok true w := by kernel_rfl
theorem setE (ta b : Addr) (n : Int) (old : Value) (W : World) (hb : W.cell? b = some (.int .i64 n)) (ht : W.cell? ta = some old) (hf : W.frozen? ta = false) :
    (ReflectliteValue.set #[.agg #[.pointer (some ⟨16, 23, none⟩), .pointer (some ta), .int .u64 386], .agg #[.pointer (some ⟨16, 23, none⟩), .pointer (some b), .int .u64 130]]).run Tryz.prog W
      = .ok (.tuple #[]) (W.setCell ta (.int .i64 n)) := by
  refine (congrArg (fun s : Sem Value => s.run Tryz.prog W) (show ReflectliteValue.set _ = (ReflectliteValue.parts (.agg #[.pointer (some ⟨16, 23, none⟩), .pointer (some ta), .int .u64 386]) >>= fun p => ReflectliteValue.parts (.agg #[.pointer (some ⟨16, 23, none⟩), .pointer (some b), .int .u64 130]) >>= _) from rfl)).trans ?_
  simp only [Sem.run_bind, partsEa, partsE, Result.andThen]
  simp [ReflectliteValue.flagAddr, loadVar, isAgg, underlying, Tryz.underlying23, hb, Result.andThen, directE, storeVar, Value.cells, storeCells, Addr.add]
  rw [run_store Tryz.prog W ta _ _ (by rfl)]
  simp [ht, hf]
end Go.Proofs.YtndgajlidckcdaaGreatDoor

namespace Go.Proofs.YtndgajlidckcdaaGreatDoor
open Go.RowKit Go.Extern.Stop Go.Stop Go.Extern

def errT : Value := .iface 190 (.agg #[.pointer (some ⟨16, 29, none⟩)])

theorem methodKind (h : Value) (w : World) : (Go.method 402 190 (.agg #[h]) "Kind").run Tryz.prog w = .ok (282, h) w := by kernel_rfl
theorem methodElem (h : Value) (w : World) : (Go.method 402 190 (.agg #[h]) "Elem").run Tryz.prog w = .ok (295, .agg #[h]) w := by kernel_rfl
theorem methodImplements (h : Value) (w : World) : (Go.method 402 190 (.agg #[h]) "Implements").run Tryz.prog w = .ok (296, .agg #[h]) w := by kernel_rfl
theorem methodAssign (h : Value) (w : World) : (Go.method 402 190 (.agg #[h]) "AssignableTo").run Tryz.prog w = .ok (293, .agg #[h]) w := by kernel_rfl
theorem methodUnwrap (p : Option Addr) (w : World) : (Go.method 402 122 (.pointer p) "Unwrap").run Tryz.prog w = .ok (287, .pointer p) w := by kernel_rfl

set_option maxRecDepth 100000 in
set_option maxHeartbeats 4000000 in
theorem as_hit (n : Int) (t : Addr) (old : Value) (w : World) (hg : w.cell? ⟨2, 0, none⟩ = some errT) (ht0 : w.cell? t = some old) (hf0 : w.frozen? t = false) :
    Calls Tryz.prog 48 #[.iface 23 (.int .i64 n), .iface 93 (.pointer (some t))] w fun ev w' => ev = .returned (.bool true) ∧ ∃ w1, Below w.heap.size w w1 ∧ w' = w1.setCell t (.int .i64 n) := by
  unfold errT at hg
  have h6 := @run_callFunc_extern Tryz.prog 88 _ (fun args => ReflectliteValue.unpack (args.getD 0 (.tuple #[]))) Tryz.func88 (by kernel_rfl) (by kernel_rfl) (by kernel_rfl) (by kernel_rfl)
  have h7 := @run_callFunc_extern Tryz.prog 89 _ (ReflectliteValue.methodAny (ReflectliteValue.valueError "reflectlite.Value.Type" 0) (fun t _ _ _ => ReflectliteType.toType t)) Tryz.func89 (by kernel_rfl) (by kernel_rfl) (by kernel_rfl) (by kernel_rfl)
  have h8 := @run_callFunc_extern Tryz.prog 90 _ (ReflectliteValue.method (ReflectliteValue.valueError "reflectlite.Value.IsNil" 0) ReflectliteValue.isNil) Tryz.func90 (by kernel_rfl) (by kernel_rfl) (by kernel_rfl) (by kernel_rfl)
  have hK := @run_callFunc_extern Tryz.prog 282 _ (ReflectliteType.abiMethod fun t => do pure (.int .u8 (← Rtype.kind t))) Tryz.func282 (by kernel_rfl) (by kernel_rfl) (by kernel_rfl) (by kernel_rfl)
  have hE := @run_callFunc_extern Tryz.prog 295 _ (ReflectliteType.method ReflectliteType.elem) Tryz.func295 (by kernel_rfl) (by kernel_rfl) (by kernel_rfl) (by kernel_rfl)
  have hI := @run_callFunc_extern Tryz.prog 296 _ (ReflectliteType.relation "Implements" ReflectliteType.implements_) Tryz.func296 (by kernel_rfl) (by kernel_rfl) (by kernel_rfl) (by kernel_rfl)
  have hO := @run_callFunc_extern Tryz.prog 142 _ ReflectliteType.typeOf Tryz.func142 (by kernel_rfl) (by kernel_rfl) (by kernel_rfl) (by kernel_rfl)
  have hA := @run_callFunc_extern Tryz.prog 293 _ (ReflectliteType.relation "AssignableTo" ReflectliteType.assignableTo) Tryz.func293 (by kernel_rfl) (by kernel_rfl) (by kernel_rfl) (by kernel_rfl)
  have hV := @run_callFunc_extern Tryz.prog 143 _ (ReflectliteValue.method (ReflectliteValue.valueError "reflectlite.Value.Elem" 0) ReflectliteValue.elem) Tryz.func143 (by kernel_rfl) (by kernel_rfl) (by kernel_rfl) (by kernel_rfl)
  have hS := @run_callFunc_extern Tryz.prog 144 _ ReflectliteValue.set Tryz.func144 (by kernel_rfl) (by kernel_rfl) (by kernel_rfl) (by kernel_rfl)
  have tO := typeOfE
  have aE := assignE
  have vE := valueOfE
  have f6 := valueOfP
  have f7 := typeP
  have kP := kindP
  have kE := kindE
  have eP := elemP
  have iE := implementsE
  have mK := methodKind
  have mE := methodElem
  have mI := methodImplements
  have mA := methodAssign
  have hgl : 2 < w.heap.size := cell_lt hg
  have htl : t.block < w.heap.size := cell_lt ht0
  have n8 := isNilP ⟨w.heap.size, 0, none⟩ t ((w.alloc (.cells #[.pointer (some t)] 93)).alloc (.cells #[.pointer (some ⟨16, 93, none⟩), .pointer (some ⟨w.heap.size, 0, none⟩), .int .u64 150] 149)) (by simp)
  have hg2 := cell_al (cell_al hg (.cells #[.pointer (some t)] 93)) (.cells #[.pointer (some ⟨16, 93, none⟩), .pointer (some ⟨w.heap.size, 0, none⟩), .int .u64 150] 149)
  have el := elemVP ⟨w.heap.size, 0, none⟩ t (((w.alloc (.cells #[.pointer (some t)] 93)).alloc (.cells #[.pointer (some ⟨16, 93, none⟩), .pointer (some ⟨w.heap.size, 0, none⟩), .int .u64 150] 149)).alloc (.cells #[.pointer (some ⟨16, 93, none⟩), .pointer (some ⟨w.heap.size, 0, none⟩), .int .u64 150] 149)) (cell_al (cell_al (hcell (hnew _ _) 0) _) _)
  have st := setE t ⟨w.heap.size + 1 + 1 + 1, 0, none⟩ n old ((((w.alloc (.cells #[.pointer (some t)] 93)).alloc (.cells #[.pointer (some ⟨16, 93, none⟩), .pointer (some ⟨w.heap.size, 0, none⟩), .int .u64 150] 149)).alloc (.cells #[.pointer (some ⟨16, 93, none⟩), .pointer (some ⟨w.heap.size, 0, none⟩), .int .u64 150] 149)).alloc (.cells #[.int .i64 n] 23))
    (by rw [World.cell?_alloc_at _ _ _ _ (by simp)]; rfl)
    (cell_al (cell_al (cell_al (cell_al ht0 _) _) _) _)
    (by rw [World.frozen?_alloc_old _ _ t (by simp; omega), World.frozen?_alloc_old _ _ t (by simp; omega), World.frozen?_alloc_old _ _ t (by simp; omega), World.frozen?_alloc_old _ _ t (Nat.ne_of_lt htl)]; exact hf0)
  go_enter Tryz.func48, Tryz.ntmps48
  go_wp2
  refine wp_loop_rounds 1 ?_
  rw [rounds_succ]
  go_wp2
  go_ret
  exact ⟨rfl, _, ((((Below.refl _ _).alloc (Nat.le_refl _) _).alloc (by simp) _).alloc (by simp; omega) _).alloc (by simp; omega) _, rfl⟩
end Go.Proofs.YtndgajlidckcdaaGreatDoor

namespace Go.Proofs.YtndgajlidckcdaaGreatDoor
open Go.RowKit Go.Extern.Stop Go.Stop Go.Extern

theorem noAs (v : Value) (xT : TypeId) (w : World) : (Go.Instr.typeAssert (.iface 122 v) xT 195 true).run Tryz.prog w = .ok (.tuple #[.nilIface, .bool false]) w := run_typeAssert_lacksB Tryz.underlying195 (by kernel_rfl) (by kernel_rfl) v xT w
theorem hasUn (v : Value) (xT : TypeId) (w : World) : (Go.Instr.typeAssert (.iface 122 v) xT 132 true).run Tryz.prog w = .ok (.tuple #[.iface 122 v, .bool true]) w := run_typeAssert_hasB Tryz.underlying132 (by kernel_rfl) v xT w
theorem nilAheadUn (a : Addr) (w : World) : (nilAhead 402 122 (.pointer (some a)) "Unwrap").run Tryz.prog w = .ok (some false) w := by kernel_rfl

set_option maxRecDepth 100000 in
set_option maxHeartbeats 4000000 in
theorem as_at (n : Int) (ab : Nat) (t : Addr) (old : Value) (w : World) (hg : w.cell? ⟨2, 0, none⟩ = some errT) (hab : w.cell? ⟨ab, 0, none⟩ = some (.int .i64 n)) (ht0 : w.cell? t = some old) (hf0 : w.frozen? t = false) :
    Calls Tryz.prog 48 #[.iface 122 (.pointer (some ⟨ab, 0, none⟩)), .iface 93 (.pointer (some t))] w fun ev w' => ev = .returned (.bool true) ∧ ∃ w1, Below w.heap.size w w1 ∧ w' = w1.setCell t (.int .i64 n) := by
  unfold errT at hg
  have h6 := @run_callFunc_extern Tryz.prog 88 _ (fun args => ReflectliteValue.unpack (args.getD 0 (.tuple #[]))) Tryz.func88 (by kernel_rfl) (by kernel_rfl) (by kernel_rfl) (by kernel_rfl)
  have h7 := @run_callFunc_extern Tryz.prog 89 _ (ReflectliteValue.methodAny (ReflectliteValue.valueError "reflectlite.Value.Type" 0) (fun t _ _ _ => ReflectliteType.toType t)) Tryz.func89 (by kernel_rfl) (by kernel_rfl) (by kernel_rfl) (by kernel_rfl)
  have h8 := @run_callFunc_extern Tryz.prog 90 _ (ReflectliteValue.method (ReflectliteValue.valueError "reflectlite.Value.IsNil" 0) ReflectliteValue.isNil) Tryz.func90 (by kernel_rfl) (by kernel_rfl) (by kernel_rfl) (by kernel_rfl)
  have hK := @run_callFunc_extern Tryz.prog 282 _ (ReflectliteType.abiMethod fun t => do pure (.int .u8 (← Rtype.kind t))) Tryz.func282 (by kernel_rfl) (by kernel_rfl) (by kernel_rfl) (by kernel_rfl)
  have hE := @run_callFunc_extern Tryz.prog 295 _ (ReflectliteType.method ReflectliteType.elem) Tryz.func295 (by kernel_rfl) (by kernel_rfl) (by kernel_rfl) (by kernel_rfl)
  have hI := @run_callFunc_extern Tryz.prog 296 _ (ReflectliteType.relation "Implements" ReflectliteType.implements_) Tryz.func296 (by kernel_rfl) (by kernel_rfl) (by kernel_rfl) (by kernel_rfl)
  have hO := @run_callFunc_extern Tryz.prog 142 _ ReflectliteType.typeOf Tryz.func142 (by kernel_rfl) (by kernel_rfl) (by kernel_rfl) (by kernel_rfl)
  have hA := @run_callFunc_extern Tryz.prog 293 _ (ReflectliteType.relation "AssignableTo" ReflectliteType.assignableTo) Tryz.func293 (by kernel_rfl) (by kernel_rfl) (by kernel_rfl) (by kernel_rfl)
  have hV := @run_callFunc_extern Tryz.prog 143 _ (ReflectliteValue.method (ReflectliteValue.valueError "reflectlite.Value.Elem" 0) ReflectliteValue.elem) Tryz.func143 (by kernel_rfl) (by kernel_rfl) (by kernel_rfl) (by kernel_rfl)
  have hS := @run_callFunc_extern Tryz.prog 144 _ ReflectliteValue.set Tryz.func144 (by kernel_rfl) (by kernel_rfl) (by kernel_rfl) (by kernel_rfl)
  have tO := typeOfE
  have tA := typeOfA
  have aA := assignA
  have mU := methodUnwrap
  have nA := noAs
  have hU := hasUn
  have nU := nilAheadUn
  have aE := assignE
  have vE := valueOfE
  have f6 := valueOfP
  have f7 := typeP
  have kP := kindP
  have kE := kindE
  have eP := elemP
  have iE := implementsE
  have mK := methodKind
  have mE := methodElem
  have mI := methodImplements
  have mA := methodAssign
  have hgl : 2 < w.heap.size := cell_lt hg
  have htl : t.block < w.heap.size := cell_lt ht0
  have ha3 := cell_al (cell_al (cell_al hab (.cells #[.pointer (some t)] 93)) (.cells #[.pointer (some ⟨16, 93, none⟩), .pointer (some ⟨w.heap.size, 0, none⟩), .int .u64 150] 149)) (.cells #[.pointer (some ⟨16, 93, none⟩), .pointer (some ⟨w.heap.size, 0, none⟩), .int .u64 150] 149)
  have n8 := isNilP ⟨w.heap.size, 0, none⟩ t ((w.alloc (.cells #[.pointer (some t)] 93)).alloc (.cells #[.pointer (some ⟨16, 93, none⟩), .pointer (some ⟨w.heap.size, 0, none⟩), .int .u64 150] 149)) (by simp)
  have hg2 := cell_al (cell_al hg (.cells #[.pointer (some t)] 93)) (.cells #[.pointer (some ⟨16, 93, none⟩), .pointer (some ⟨w.heap.size, 0, none⟩), .int .u64 150] 149)
  have el := elemVP ⟨w.heap.size, 0, none⟩ t (((w.alloc (.cells #[.pointer (some t)] 93)).alloc (.cells #[.pointer (some ⟨16, 93, none⟩), .pointer (some ⟨w.heap.size, 0, none⟩), .int .u64 150] 149)).alloc (.cells #[.pointer (some ⟨16, 93, none⟩), .pointer (some ⟨w.heap.size, 0, none⟩), .int .u64 150] 149)) (cell_al (cell_al (hcell (hnew _ _) 0) _) _)
  have st := setE t ⟨w.heap.size + 1 + 1 + 1, 0, none⟩ n old ((((w.alloc (.cells #[.pointer (some t)] 93)).alloc (.cells #[.pointer (some ⟨16, 93, none⟩), .pointer (some ⟨w.heap.size, 0, none⟩), .int .u64 150] 149)).alloc (.cells #[.pointer (some ⟨16, 93, none⟩), .pointer (some ⟨w.heap.size, 0, none⟩), .int .u64 150] 149)).alloc (.cells #[.int .i64 n] 23))
    (by rw [World.cell?_alloc_at _ _ _ _ (by simp)]; rfl)
    (cell_al (cell_al (cell_al (cell_al ht0 _) _) _) _)
    (by rw [World.frozen?_alloc_old _ _ t (by simp; omega), World.frozen?_alloc_old _ _ t (by simp; omega), World.frozen?_alloc_old _ _ t (by simp; omega), World.frozen?_alloc_old _ _ t (Nat.ne_of_lt htl)]; exact hf0)
  go_enter Tryz.func48, Tryz.ntmps48
  go_wp2
  refine wp_loop_rounds 2 ?_
  rw [rounds_succ]
  go_wp2
  rw [rounds_succ]
  go_wp2
  go_ret
  exact ⟨rfl, _, ((((Below.refl _ _).alloc (Nat.le_refl _) _).alloc (by simp) _).alloc (by simp; omega) _).alloc (by simp; omega) _, rfl⟩
end Go.Proofs.YtndgajlidckcdaaGreatDoor

namespace Go.Proofs.YtndgajlidckcdaaGreatDoor
open Go.RowKit

theorem neqNil0 (w : World) : (binOp BinOp.neq 29 .nilIface .nilIface).run Tryz.prog w = .ok (.bool false) w := by kernel_rfl
theorem eqlNil0 (w : World) : (binOp BinOp.eql 29 .nilIface .nilIface).run Tryz.prog w = .ok (.bool true) w := by kernel_rfl

/-- The errors' type, where it lies. -/
def ErrT (w : World) : Prop := w.cell? ⟨2, 0, none⟩ = some errT
theorem ErrT.keep {w w' : World} (h : ErrT w) (hb : Below w.heap.size w w') : ErrT w' := cellk hb h (cell_lt h)

set_option maxRecDepth 100000 in
set_option maxHeartbeats 4000000 in
theorem tell_any {w : World} {v : Value} {n p : Int} (h : ErrAt w v n p) (hT : ErrT w) :
    Calls Tryz.prog 17 #[v] w fun e w' => e = .returned (.int .i64 n) ∧ Below w.heap.size w w' := by
  have HT := hide hT
  have hT2 := hide (cell_al hT (.cells #[.int .i64 0] 23))
  rcases h with ⟨rfl, rfl, rfl⟩ | ⟨rfl, rfl⟩ | ⟨b, rfl, h1, h2⟩
  · have q := eqlNil0
    clear hT
    go_enter Tryz.func17, Tryz.ntmps17
    go_wp2_with fail
    go_ret
    exact ⟨rfl, Below.refl _ _⟩
  · clear hT
    go_enter Tryz.func17, Tryz.ntmps17
    go_wp2_with fail
    refine (as_hit n ⟨w.heap.size, 0, none⟩ (.int .i64 0) _ (unhide hT2) (hcell (hnew _ _) 0) (hfroz (hnew _ _) 0)).mono ?_
    rintro e w2 ⟨rfl, w1, hb1, rfl⟩
    have hs1 : w.heap.size < w1.heap.size := by have := hb1.size; simp at this; omega
    obtain ⟨cs, hcs⟩ : ∃ t fr, w1.heap[w.heap.size]? = some (.cells #[.int .i64 0] t fr) := ⟨_, _, (hb1.block w.heap.size (by simp)).trans (hnew _ _)⟩
    obtain ⟨fr, hcs⟩ := hcs
    have k0 : (w1.setCell ⟨w.heap.size, 0, none⟩ (.int .i64 n)).cell? ⟨w.heap.size, 0, none⟩ = some (.int .i64 n) := (hcell (hset hcs (i := 0) _) 0).trans rfl
    have HB : Hid (Below w.heap.size w (w1.setCell ⟨w.heap.size, 0, none⟩ (.int .i64 n))) := (((Below.refl _ _).alloc (Nat.le_refl _) _).trans (hb1.mono (by simp))).setCell (p := ⟨w.heap.size, 0, none⟩) (Nat.le_refl _) _
    clear hb1 hcs
    go_wp2_with fail
    go_ret
    exact ⟨rfl, unhide HB⟩
  · clear hT
    have ha := hide (cell_al h1 (.cells #[.int .i64 0] 23))
    go_enter Tryz.func17, Tryz.ntmps17
    go_wp2_with fail
    refine (as_at n b ⟨w.heap.size, 0, none⟩ (.int .i64 0) _ (unhide hT2) (unhide ha) (hcell (hnew _ _) 0) (hfroz (hnew _ _) 0)).mono ?_
    rintro e w2 ⟨rfl, w1, hb1, rfl⟩
    obtain ⟨cs, fr, hcs⟩ : ∃ t fr, w1.heap[w.heap.size]? = some (.cells #[.int .i64 0] t fr) := ⟨_, _, (hb1.block w.heap.size (by simp)).trans (hnew _ _)⟩
    have k0 : (w1.setCell ⟨w.heap.size, 0, none⟩ (.int .i64 n)).cell? ⟨w.heap.size, 0, none⟩ = some (.int .i64 n) := (hcell (hset hcs (i := 0) _) 0).trans rfl
    have HB : Hid (Below w.heap.size w (w1.setCell ⟨w.heap.size, 0, none⟩ (.int .i64 n))) := (((Below.refl _ _).alloc (Nat.le_refl _) _).trans (hb1.mono (by simp))).setCell (p := ⟨w.heap.size, 0, none⟩) (Nat.le_refl _) _
    clear hb1 hcs
    go_wp2_with fail
    go_ret
    exact ⟨rfl, unhide HB⟩
end Go.Proofs.YtndgajlidckcdaaGreatDoor

namespace Go.Proofs.YtndgajlidckcdaaGreatDoor
open Go.RowKit
set_option linter.unusedVariables false
set_option linter.unusedSimpArgs false

/-- What the road reads of variables. -/
structure PB (w : World) : Prop where
  tabs : Tabs w w.heap.size
  sg : SG w
  err : ErrT w
theorem PB.add {w w' : World} (h : PB w) (ha : Add w w') : PB w' := ⟨(h.tabs.keep fun j _ hl => ha.block j hl).up ha.size, h.sg.add ha, h.err.keep (below_of_add ha)⟩
/-- How 'read' comes back, in short. -/
theorem read_short {lo : Nat} {s : ByteArray} {e : Ending} {w' : World} (h : ReadIs lo s e w') : (∃ t b, parseT s (jval (lo + 2) 1) = some t ∧ e = .returned (.tuple #[.pointer (some ⟨b, 0, none⟩), .bool true]) ∧ Nd w' b t) ∨ e = .returned (.tuple #[.pointer none, .bool false]) := by
  rcases h with ⟨t, b, h1, h2, h3⟩ | ⟨_, h⟩
  · exact Or.inl ⟨t, b, h1, h2, h3.mono fun _ _ => trivial⟩
  · exact Or.inr h
/-- How Parse comes back of a program's text. -/
theorem parse_back {w : World} (h : PB w) {t : Tree} (hx : Wx t) (hk : t.kind = 1) (hm : t.many ≤ 1200) (hs : (xText t).size ≤ 3000) : Calls Tryz.prog 8 #[.string (xText t)] w fun e w' =>
    ((∃ a p, e = .returned (.tuple #[.pointer none, .iface 122 (.pointer (some ⟨a, 0, none⟩))]) ∧ ErrAt w' (.iface 122 (.pointer (some ⟨a, 0, none⟩))) 4 p) ∨
      ∃ b t', e = .returned (.tuple #[.pointer (some ⟨b, 0, none⟩), .nilIface]) ∧ Nd w' b t' ∧ LkT t t' ∧ Wx t' ∧ t'.kind = 1 ∧ t'.many ≤ 1200) ∧ Add w w' := by
  refine (parse_short h.tabs _ hs).mono ?_
  rintro e w' ⟨⟨vn, ve, rfl, hc⟩, ha⟩
  refine ⟨?_, ha⟩
  have hb := back_pure hx hk (by omega) (jval (w.heap.size + 2) 1)
  rcases hc with ⟨h1, _⟩ | ⟨_, f, h1, rfl, a, rfl, _, h2⟩ | ⟨_, t', S, h1, h2, _⟩ | ⟨_, t', S, h1, h2, h3, rfl⟩
  · omega
  · rcases hb with ⟨p, e⟩ | ⟨x, S', e, _⟩
    · rw [h1] at e
      cases e
      exact Or.inl ⟨a, p, rfl, Or.inr (Or.inr ⟨a, rfl, hcell h2 0, hcell h2 1⟩)⟩
    · rw [h1] at e; cases e
  · rcases hb with ⟨p, e⟩ | ⟨x, S', e, hl⟩
    · rw [h1] at e; cases e
    · rw [h1] at e
      cases e
      have := many_like hl
      have hw : wrap64 (t'.many : Int) = t'.many := by unfold wrap64; omega
      omega
  · rcases hb with ⟨p, e⟩ | ⟨x, S', e, hl⟩
    · rw [h1] at e; cases e
    · rw [h1] at e
      cases e
      have hx' := readP_x h1
      have hmm := many_like hl
      unfold vNode at h3
      have h4 := h3
      rw [NodeAt_iff] at h4
      obtain ⟨b, ty, ks, vs, rfl, _⟩ := h4
      exact Or.inr ⟨b, t', rfl, h3.mono fun _ _ => trivial, hl, hx'.1, hx'.2, by omega⟩
set_option maxRecDepth 100000 in
set_option maxHeartbeats 8000000 in
theorem back_any {w : World} (h : PB w) (s : ByteArray) (hm : s.size ≤ 9223372036854775807) : Calls Tryz.prog 4 #[.string s] w fun e w' => e = .returned (.bool true) ∧ Below w.heap.size w w' := by
  have hn0 : ∀ w : World, (binOp BinOp.neq 29 .nilIface .nilIface).run Tryz.prog w = .ok (.bool false) w := fun _ => by kernel_rfl
  have H := hide h
  clear h
  go_enter Tryz.func4, Tryz.ntmps4
  go_wp2_with fail
  refine (read_any (unhide H).tabs s hm).mono ?_
  rintro e w1 ⟨hr, ha1⟩
  rcases read_short hr with ⟨t, b, h1, rfl, h3⟩ | rfl
  · have hx := parseT_wx h1
    have HX := hide hx
    have H1 := hide ((unhide H).add ha1)
    have HA1 := hide ha1
    have HN1 := hide h3
    clear hr h1 hx h3 ha1
    go_wp2_with fail
    refine (written_any (unhide H1).tabs (unhide H1).sg).mono ?_
    rintro e w2 ⟨rfl, ha2⟩
    have H2 := hide ((unhide H1).add ha2)
    have HA2 := hide ((unhide HA1).tr ha2)
    have HN2 := hide ((unhide HN1).add ha2)
    clear H1 HA1 HN1 ha2
    go_wp2_with fail
    refine (text_any (unhide H2).sg (unhide HN2) (unhide HX).1 (unhide HX).2.1 (Nat.le_succ_of_le (unhide HX).2.2)).mono ?_
    rintro e w3 ⟨rfl, ha3⟩
    have H3 := hide ((unhide H2).add ha3)
    have HA3 := hide ((unhide HA2).tr ha3)
    have HN3 := hide ((unhide HN2).add ha3)
    clear H2 HA2 HN2 ha3
    by_cases hs : 3000 < (xText t).size
    · have b0 : decide ((3000 : Int) < ((xText t).size : Int)) = true := by simp; omega
      go_wp2_with fail
      go_ret
      exact ⟨rfl, below_of_add (unhide HA3)⟩
    · have b0 : decide ((3000 : Int) < ((xText t).size : Int)) = false := by simp; omega
      have hs' : (xText t).size ≤ 3000 := by omega
      go_wp2_with fail
      refine (parse_back (unhide H3) (unhide HX).1 (unhide HX).2.1 (unhide HX).2.2 hs').mono ?_
      rintro e w4 ⟨⟨a, p, rfl, he⟩ | ⟨b', t', rfl, hn, hl, hx', hk', hm'⟩, ha4⟩
      · have hn1 : ∀ w : World, (binOp BinOp.neq 29 (.iface 122 (.pointer (some ⟨a, 0, none⟩))) .nilIface).run Tryz.prog w = .ok (.bool true) w := fun _ => by kernel_rfl
        have HE := hide he
        have H4 := hide ((unhide H3).add ha4)
        have HA4 := hide ((unhide HA3).tr ha4)
        clear he H3 HA3 HN3 ha4
        go_wp2_with fail
        refine (tell_any (unhide HE) (unhide H4).err).mono ?_
        rintro e w5 ⟨rfl, hb5⟩
        have HB := hide ((below_of_add (unhide HA4)).trans (hb5.mono (unhide HA4).size))
        clear hb5
        go_wp2_with fail
        go_ret
        exact ⟨rfl, unhide HB⟩
      · have HL := hide hl
        have HN4 := hide ((unhide HN3).add ha4)
        have HM4 := hide hn
        have H4 := hide ((unhide H3).add ha4)
        have HA4 := hide ((unhide HA3).tr ha4)
        have ht : Hid (∀ w5 : World, Add w4 w5 → Calls Tryz.prog 11 #[.pointer (some ⟨b', 0, none⟩)] w5 fun e w' => e = .returned (.string (xText t)) ∧ Add w5 w') := fun w5 h5 => by
          have := text_any ((unhide H4).sg.add h5) ((unhide HM4).add h5) hx' hk' (Nat.le_succ_of_le hm')
          rw [text_like (unhide HL)] at this
          exact this
        clear hl hn hx' hk' hm' H3 HA3 HN3 ha4
        go_wp2_with fail
        refine (flat_like t t' w4 _ _ (unhide HL) (unhide HN4) (unhide HM4)).mono ?_
        rintro e w5 ⟨rfl, m5, rfl⟩
        have h5 := (Add.refl w4).drewN m5
        have HT5 := hide (unhide ht _ h5)
        have HA5 := hide ((unhide HA4).tr h5)
        clear h5 ht
        go_wp2_with fail
        refine (unhide HT5).mono ?_
        rintro e w6 ⟨rfl, ha6⟩
        have HA6 := hide ((unhide HA5).tr ha6)
        clear ha6
        go_wp2_with fail
        go_ret
        exact ⟨by simp, below_of_add (unhide HA6)⟩
  · have H1 := hide ((unhide H).add ha1)
    have HA1 := hide ha1
    clear hr ha1
    go_wp2_with fail
    refine (written_any (unhide H1).tabs (unhide H1).sg).mono ?_
    rintro e w2 ⟨rfl, ha2⟩
    have H2 := hide ((unhide H1).add ha2)
    have HA2 := hide ((unhide HA1).tr ha2)
    clear H1 HA1 ha2
    go_wp2_with fail
    refine (written_any (unhide H2).tabs (unhide H2).sg).mono ?_
    rintro e w3 ⟨rfl, ha3⟩
    have HA3 := hide ((unhide HA2).tr ha3)
    clear ha3
    go_wp2_with fail
    go_ret
    exact ⟨rfl, below_of_add (unhide HA3)⟩
end Go.Proofs.YtndgajlidckcdaaGreatDoor
