/-
  errors.As at a number: closed facts, and the entries that read or write memory.
  errors.As at a number, walked; what an error tells, and its place.
  errors.As at an error with a place.
  What an error tells, and its place.
  A text with another one behind it, a blank between: of the reader as plain functions, byte by byte.
  A text with another one behind it: what is read of the shorter one is read of the longer one too.
-/
import Derived.Test.YtjcoobkpmpjpbaaGreatDoorM29
import Derived.LaidEql
import Derived.Stop.Asserts
import Derived.RowKitTokens
namespace Go.Proofs.YtjcoobkpmpjpbaaGreatDoor
open Go.RowKit Go.Extern.Stop Go.Stop Go.Extern
theorem cell_lt {w : World} {a : Addr} {v : Value} (h : w.cell? a = some v) : a.block < w.heap.size := cell_ltK h
theorem cellk {B : Nat} {w w' : World} (hb : Below B w w') {a : Addr} {v : Value} (h : w.cell? a = some v) (hl : a.block < B) : w'.cell? a = some v := (hb.cell hl).trans h
theorem cell_al {w : World} {a : Addr} {v : Value} (h : w.cell? a = some v) : ∀ o, (w.alloc o).cell? a = some v := fun o => by
  rw [World.cell?_alloc_lt _ _ a (cell_lt h)]; exact h
/-- An error and its place, in memory. -/
def ErrAt (w : World) (v : Value) (e p : Int) : Prop :=
  (v = .nilIface ∧ e = 0 ∧ p = -1) ∨ (v = .iface 34 (.int .i64 e) ∧ p = -1) ∨
  (∃ b, v = .iface 78 (.pointer (some ⟨b, 0, none⟩)) ∧ w.cell? ⟨b, 0, none⟩ = some (.int .i64 e) ∧ w.cell? ⟨b, 1, none⟩ = some (.int .i64 p))
theorem ErrAt.keep {w w' : World} {v : Value} {e p : Int} (h : ErrAt w v e p) (hb : Below w.heap.size w w') : ErrAt w' v e p := by
  rcases h with h | h | ⟨b, h1, h2, h3⟩
  · exact Or.inl h
  · exact Or.inr (Or.inl h)
  · exact Or.inr (Or.inr ⟨b, h1, cellk hb h2 (cell_lt h2), cellk hb h3 (cell_lt h3)⟩)



theorem as_nil (t : Value) (w : World) : Calls Tryz.prog 21 #[.nilIface, t] w fun e w' => e = .returned (.bool false) ∧ w' = w := by
  go_enter Tryz.func21, Tryz.ntmps21
  go_wp2_with fail
  go_ret
  exact ⟨rfl, rfl⟩

theorem valueOfP (t : Addr) (w : World) : (ReflectliteValue.unpack (.iface 61 (.pointer (some t)))).run Tryz.prog w
    = .ok (.agg #[.pointer (some ⟨10, 61, none⟩), .pointer (some ⟨w.heap.size, 0, none⟩), .int .u64 150]) (w.alloc (.cells #[.pointer (some t)] 61)) := by kernel_rfl
theorem typeP (a : Addr) (w : World) : (ReflectliteValue.methodAny (ReflectliteValue.valueError "reflectlite.Value.Type" 0) (fun t _ _ _ => ReflectliteType.toType t) #[.agg #[.pointer (some ⟨10, 61, none⟩), .pointer (some a), .int .u64 150]]).run Tryz.prog w
    = .ok (.iface 119 (.agg #[.pointer (some ⟨10, 61, none⟩)])) w := by kernel_rfl
theorem kindP (w : World) : ((ReflectliteType.abiMethod fun t => Functor.map (fun a : Nat => Value.int IntKind.u8 (a : Int)) (Rtype.kind t)) #[.pointer (some ⟨10, 61, none⟩)]).run Tryz.prog w = .ok (.int .u8 22) w := by kernel_rfl
theorem kindE (w : World) : ((ReflectliteType.abiMethod fun t => Functor.map (fun a : Nat => Value.int IntKind.u8 (a : Int)) (Rtype.kind t)) #[.pointer (some ⟨10, 34, none⟩)]).run Tryz.prog w = .ok (.int .u8 2) w := by kernel_rfl
theorem partsP (a : Addr) (w : World) : (ReflectliteValue.parts (.agg #[.pointer (some ⟨10, 61, none⟩), .pointer (some a), .int .u64 150])).run Tryz.prog w = .ok (some (61, a, 150)) w := by kernel_rfl
theorem isNilP (a p : Addr) (W : World) (ha : W.cell? a = some (.pointer (some p))) :
    (ReflectliteValue.method (ReflectliteValue.valueError "reflectlite.Value.IsNil" 0) ReflectliteValue.isNil #[.agg #[.pointer (some ⟨10, 61, none⟩), .pointer (some a), .int .u64 150]]).run Tryz.prog W = .ok (.bool false) W := by
  refine (congrArg (fun s : Sem Value => s.run Tryz.prog W) (show ReflectliteValue.method _ _ _ = (ReflectliteValue.parts (.agg #[.pointer (some ⟨10, 61, none⟩), .pointer (some a), .int .u64 150]) >>= _) from rfl)).trans ?_
  simp only [Sem.run_bind, partsP, Result.andThen]
  simp [ReflectliteValue.isNil, loadVar, isAgg, underlying, Tryz.underlying61, ha, Result.andThen]
theorem elemP (w : World) : (ReflectliteType.method ReflectliteType.elem #[.agg #[.pointer (some ⟨10, 61, none⟩)]]).run Tryz.prog w = .ok (.iface 119 (.agg #[.pointer (some ⟨10, 34, none⟩)])) w := by kernel_rfl
theorem implementsE (w : World) : (ReflectliteType.relation "Implements" ReflectliteType.implements_ #[.agg #[.pointer (some ⟨10, 34, none⟩)], .iface 119 (.agg #[.pointer (some ⟨10, 28, none⟩)])]).run Tryz.prog w = .ok (.bool true) w := by kernel_rfl
theorem typeOfE (v : Value) (w : World) : (ReflectliteType.typeOf #[.iface 34 v]).run Tryz.prog w = .ok (.iface 119 (.agg #[.pointer (some ⟨10, 34, none⟩)])) w := by kernel_rfl
theorem typeOfA (v : Value) (w : World) : (ReflectliteType.typeOf #[.iface 78 v]).run Tryz.prog w = .ok (.iface 119 (.agg #[.pointer (some ⟨10, 78, none⟩)])) w := by kernel_rfl
theorem assignE (w : World) : (ReflectliteType.relation "AssignableTo" ReflectliteType.assignableTo #[.agg #[.pointer (some ⟨10, 34, none⟩)], .iface 119 (.agg #[.pointer (some ⟨10, 34, none⟩)])]).run Tryz.prog w = .ok (.bool true) w := by kernel_rfl
theorem assignA (w : World) : (ReflectliteType.relation "AssignableTo" ReflectliteType.assignableTo #[.agg #[.pointer (some ⟨10, 78, none⟩)], .iface 119 (.agg #[.pointer (some ⟨10, 34, none⟩)])]).run Tryz.prog w = .ok (.bool false) w := by kernel_rfl
theorem valueOfE (n : Int) (w : World) : (ReflectliteValue.unpack (.iface 34 (.int .i64 n))).run Tryz.prog w
    = .ok (.agg #[.pointer (some ⟨10, 34, none⟩), .pointer (some ⟨w.heap.size, 0, none⟩), .int .u64 130]) (w.alloc (.cells #[.int .i64 n] 34)) := by kernel_rfl
theorem elemOfP (w : World) : (Rtype.elem? 61).run Tryz.prog w = .ok (some 34) w := by kernel_rfl
theorem mkE (p : Addr) (w : World) : (ReflectliteValue.mk 34 p ReflectliteValue.flagAddr).run Tryz.prog w = .ok (.agg #[.pointer (some ⟨10, 34, none⟩), .pointer (some p), .int .u64 386]) w := by kernel_rfl
theorem elemVP (a p : Addr) (W : World) (ha : W.cell? a = some (.pointer (some p))) :
    (ReflectliteValue.method (ReflectliteValue.valueError "reflectlite.Value.Elem" 0) ReflectliteValue.elem #[.agg #[.pointer (some ⟨10, 61, none⟩), .pointer (some a), .int .u64 150]]).run Tryz.prog W
      = .ok (.agg #[.pointer (some ⟨10, 34, none⟩), .pointer (some p), .int .u64 386]) W := by
  refine (congrArg (fun s : Sem Value => s.run Tryz.prog W) (show ReflectliteValue.method _ _ _ = (ReflectliteValue.parts (.agg #[.pointer (some ⟨10, 61, none⟩), .pointer (some a), .int .u64 150]) >>= _) from rfl)).trans ?_
  simp only [Sem.run_bind, partsP, Result.andThen]
  simp [ReflectliteValue.elem, loadVar, isAgg, underlying, Tryz.underlying61, ha, Result.andThen, elemOfP, mkE]
theorem partsEa (a : Addr) (w : World) : (ReflectliteValue.parts (.agg #[.pointer (some ⟨10, 34, none⟩), .pointer (some a), .int .u64 386])).run Tryz.prog w = .ok (some (34, a, 386)) w := by kernel_rfl
theorem partsE (a : Addr) (w : World) : (ReflectliteValue.parts (.agg #[.pointer (some ⟨10, 34, none⟩), .pointer (some a), .int .u64 130])).run Tryz.prog w = .ok (some (34, a, 130)) w := by kernel_rfl
theorem directE (w : World) : (Rtype.directlyAssignable 34 34).run Tryz.prog w = .ok true w := by kernel_rfl
theorem setE (ta b : Addr) (n : Int) (old : Value) (W : World) (hb : W.cell? b = some (.int .i64 n)) (ht : W.cell? ta = some old) (hf : W.frozen? ta = false) :
    (ReflectliteValue.set #[.agg #[.pointer (some ⟨10, 34, none⟩), .pointer (some ta), .int .u64 386], .agg #[.pointer (some ⟨10, 34, none⟩), .pointer (some b), .int .u64 130]]).run Tryz.prog W
      = .ok (.tuple #[]) (W.setCell ta (.int .i64 n)) := by
  refine (congrArg (fun s : Sem Value => s.run Tryz.prog W) (show ReflectliteValue.set _ = (ReflectliteValue.parts (.agg #[.pointer (some ⟨10, 34, none⟩), .pointer (some ta), .int .u64 386]) >>= fun p => ReflectliteValue.parts (.agg #[.pointer (some ⟨10, 34, none⟩), .pointer (some b), .int .u64 130]) >>= _) from rfl)).trans ?_
  simp only [Sem.run_bind, partsEa, partsE, Result.andThen]
  simp [ReflectliteValue.flagAddr, loadVar, isAgg, underlying, Tryz.underlying34, hb, Result.andThen, directE, storeVar, Value.cells, storeCells, Addr.add]
  rw [run_store Tryz.prog W ta _ _ (by rfl)]
  simp [ht, hf]
end Go.Proofs.YtjcoobkpmpjpbaaGreatDoor

namespace Go.Proofs.YtjcoobkpmpjpbaaGreatDoor
open Go.RowKit Go.Extern.Stop Go.Stop Go.Extern

def errT : Value := .iface 119 (.agg #[.pointer (some ⟨10, 28, none⟩)])

theorem methodKind (h : Value) (w : World) : (Go.method 314 119 (.agg #[h]) "Kind").run Tryz.prog w = .ok (159, h) w := by kernel_rfl
theorem methodElem (h : Value) (w : World) : (Go.method 314 119 (.agg #[h]) "Elem").run Tryz.prog w = .ok (171, .agg #[h]) w := by kernel_rfl
theorem methodImplements (h : Value) (w : World) : (Go.method 314 119 (.agg #[h]) "Implements").run Tryz.prog w = .ok (172, .agg #[h]) w := by kernel_rfl
theorem methodAssign (h : Value) (w : World) : (Go.method 314 119 (.agg #[h]) "AssignableTo").run Tryz.prog w = .ok (169, .agg #[h]) w := by kernel_rfl
theorem methodUnwrap (p : Option Addr) (w : World) : (Go.method 314 78 (.pointer p) "Unwrap").run Tryz.prog w = .ok (164, .pointer p) w := by kernel_rfl

set_option maxRecDepth 100000 in
set_option maxHeartbeats 4000000 in
theorem as_hit (n : Int) (t : Addr) (old : Value) (w : World) (hg : w.cell? ⟨0, 0, none⟩ = some errT) (ht0 : w.cell? t = some old) (hf0 : w.frozen? t = false) :
    Calls Tryz.prog 21 #[.iface 34 (.int .i64 n), .iface 61 (.pointer (some t))] w fun ev w' => ev = .returned (.bool true) ∧ ∃ w1, Below w.heap.size w w1 ∧ w' = w1.setCell t (.int .i64 n) := by
  unfold errT at hg
  have h6 := @run_callFunc_extern Tryz.prog 36 _ (fun args => ReflectliteValue.unpack (args.getD 0 (.tuple #[]))) Tryz.func36 (by kernel_rfl) (by kernel_rfl) (by kernel_rfl) (by kernel_rfl)
  have h7 := @run_callFunc_extern Tryz.prog 37 _ (ReflectliteValue.methodAny (ReflectliteValue.valueError "reflectlite.Value.Type" 0) (fun t _ _ _ => ReflectliteType.toType t)) Tryz.func37 (by kernel_rfl) (by kernel_rfl) (by kernel_rfl) (by kernel_rfl)
  have h8 := @run_callFunc_extern Tryz.prog 38 _ (ReflectliteValue.method (ReflectliteValue.valueError "reflectlite.Value.IsNil" 0) ReflectliteValue.isNil) Tryz.func38 (by kernel_rfl) (by kernel_rfl) (by kernel_rfl) (by kernel_rfl)
  have hK := @run_callFunc_extern Tryz.prog 159 _ (ReflectliteType.abiMethod fun t => do pure (.int .u8 (← Rtype.kind t))) Tryz.func159 (by kernel_rfl) (by kernel_rfl) (by kernel_rfl) (by kernel_rfl)
  have hE := @run_callFunc_extern Tryz.prog 171 _ (ReflectliteType.method ReflectliteType.elem) Tryz.func171 (by kernel_rfl) (by kernel_rfl) (by kernel_rfl) (by kernel_rfl)
  have hI := @run_callFunc_extern Tryz.prog 172 _ (ReflectliteType.relation "Implements" ReflectliteType.implements_) Tryz.func172 (by kernel_rfl) (by kernel_rfl) (by kernel_rfl) (by kernel_rfl)
  have hO := @run_callFunc_extern Tryz.prog 66 _ ReflectliteType.typeOf Tryz.func66 (by kernel_rfl) (by kernel_rfl) (by kernel_rfl) (by kernel_rfl)
  have hA := @run_callFunc_extern Tryz.prog 169 _ (ReflectliteType.relation "AssignableTo" ReflectliteType.assignableTo) Tryz.func169 (by kernel_rfl) (by kernel_rfl) (by kernel_rfl) (by kernel_rfl)
  have hV := @run_callFunc_extern Tryz.prog 67 _ (ReflectliteValue.method (ReflectliteValue.valueError "reflectlite.Value.Elem" 0) ReflectliteValue.elem) Tryz.func67 (by kernel_rfl) (by kernel_rfl) (by kernel_rfl) (by kernel_rfl)
  have hS := @run_callFunc_extern Tryz.prog 68 _ ReflectliteValue.set Tryz.func68 (by kernel_rfl) (by kernel_rfl) (by kernel_rfl) (by kernel_rfl)
  have tO := typeOfE
  have aE := assignE
  have vE := valueOfE
  have f6 := valueOfP
  have f7 := typeP
  have kP := kindP
  have kE := kindE
  have eP := elemP
  have iE := implementsE
  have mK := methodKind
  have mE := methodElem
  have mI := methodImplements
  have mA := methodAssign
  have hgl : 0 < w.heap.size := cell_lt hg
  have htl : t.block < w.heap.size := cell_lt ht0
  have n8 := isNilP ⟨w.heap.size, 0, none⟩ t ((w.alloc (.cells #[.pointer (some t)] 61)).alloc (.cells #[.pointer (some ⟨10, 61, none⟩), .pointer (some ⟨w.heap.size, 0, none⟩), .int .u64 150] 92)) (by simp)
  have hg2 := cell_al (cell_al hg (.cells #[.pointer (some t)] 61)) (.cells #[.pointer (some ⟨10, 61, none⟩), .pointer (some ⟨w.heap.size, 0, none⟩), .int .u64 150] 92)
  have el := elemVP ⟨w.heap.size, 0, none⟩ t (((w.alloc (.cells #[.pointer (some t)] 61)).alloc (.cells #[.pointer (some ⟨10, 61, none⟩), .pointer (some ⟨w.heap.size, 0, none⟩), .int .u64 150] 92)).alloc (.cells #[.pointer (some ⟨10, 61, none⟩), .pointer (some ⟨w.heap.size, 0, none⟩), .int .u64 150] 92)) (cell_al (cell_al (hcell (hnew _ _) 0) _) _)
  have st := setE t ⟨w.heap.size + 1 + 1 + 1, 0, none⟩ n old ((((w.alloc (.cells #[.pointer (some t)] 61)).alloc (.cells #[.pointer (some ⟨10, 61, none⟩), .pointer (some ⟨w.heap.size, 0, none⟩), .int .u64 150] 92)).alloc (.cells #[.pointer (some ⟨10, 61, none⟩), .pointer (some ⟨w.heap.size, 0, none⟩), .int .u64 150] 92)).alloc (.cells #[.int .i64 n] 34))
    (by rw [World.cell?_alloc_at _ _ _ _ (by simp)]; rfl)
    (cell_al (cell_al (cell_al (cell_al ht0 _) _) _) _)
    (by rw [World.frozen?_alloc_old _ _ t (by simp; omega), World.frozen?_alloc_old _ _ t (by simp; omega), World.frozen?_alloc_old _ _ t (by simp; omega), World.frozen?_alloc_old _ _ t (Nat.ne_of_lt htl)]; exact hf0)
  go_enter Tryz.func21, Tryz.ntmps21
  go_wp2
  refine wp_loop_rounds 1 ?_
  rw [rounds_succ]
  go_wp2
  go_ret
  exact ⟨rfl, _, ((((Below.refl _ _).alloc (Nat.le_refl _) _).alloc (by simp) _).alloc (by simp; omega) _).alloc (by simp; omega) _, rfl⟩
end Go.Proofs.YtjcoobkpmpjpbaaGreatDoor

namespace Go.Proofs.YtjcoobkpmpjpbaaGreatDoor
open Go.RowKit Go.Extern.Stop Go.Stop Go.Extern

theorem noAs (v : Value) (xT : TypeId) (w : World) : (Go.Instr.typeAssert (.iface 78 v) xT 124 true).run Tryz.prog w = .ok (.tuple #[.nilIface, .bool false]) w := run_typeAssert_lacksB Tryz.underlying124 (by kernel_rfl) (by kernel_rfl) v xT w
theorem hasUn (v : Value) (xT : TypeId) (w : World) : (Go.Instr.typeAssert (.iface 78 v) xT 127 true).run Tryz.prog w = .ok (.tuple #[.iface 78 v, .bool true]) w := run_typeAssert_hasB Tryz.underlying127 (by kernel_rfl) v xT w
theorem nilAheadUn (a : Addr) (w : World) : (nilAhead 314 78 (.pointer (some a)) "Unwrap").run Tryz.prog w = .ok (some false) w := by kernel_rfl

set_option maxRecDepth 100000 in
set_option maxHeartbeats 4000000 in
theorem as_at (n : Int) (ab : Nat) (t : Addr) (old : Value) (w : World) (hg : w.cell? ⟨0, 0, none⟩ = some errT) (hab : w.cell? ⟨ab, 0, none⟩ = some (.int .i64 n)) (ht0 : w.cell? t = some old) (hf0 : w.frozen? t = false) :
    Calls Tryz.prog 21 #[.iface 78 (.pointer (some ⟨ab, 0, none⟩)), .iface 61 (.pointer (some t))] w fun ev w' => ev = .returned (.bool true) ∧ ∃ w1, Below w.heap.size w w1 ∧ w' = w1.setCell t (.int .i64 n) := by
  unfold errT at hg
  have h6 := @run_callFunc_extern Tryz.prog 36 _ (fun args => ReflectliteValue.unpack (args.getD 0 (.tuple #[]))) Tryz.func36 (by kernel_rfl) (by kernel_rfl) (by kernel_rfl) (by kernel_rfl)
  have h7 := @run_callFunc_extern Tryz.prog 37 _ (ReflectliteValue.methodAny (ReflectliteValue.valueError "reflectlite.Value.Type" 0) (fun t _ _ _ => ReflectliteType.toType t)) Tryz.func37 (by kernel_rfl) (by kernel_rfl) (by kernel_rfl) (by kernel_rfl)
  have h8 := @run_callFunc_extern Tryz.prog 38 _ (ReflectliteValue.method (ReflectliteValue.valueError "reflectlite.Value.IsNil" 0) ReflectliteValue.isNil) Tryz.func38 (by kernel_rfl) (by kernel_rfl) (by kernel_rfl) (by kernel_rfl)
  have hK := @run_callFunc_extern Tryz.prog 159 _ (ReflectliteType.abiMethod fun t => do pure (.int .u8 (← Rtype.kind t))) Tryz.func159 (by kernel_rfl) (by kernel_rfl) (by kernel_rfl) (by kernel_rfl)
  have hE := @run_callFunc_extern Tryz.prog 171 _ (ReflectliteType.method ReflectliteType.elem) Tryz.func171 (by kernel_rfl) (by kernel_rfl) (by kernel_rfl) (by kernel_rfl)
  have hI := @run_callFunc_extern Tryz.prog 172 _ (ReflectliteType.relation "Implements" ReflectliteType.implements_) Tryz.func172 (by kernel_rfl) (by kernel_rfl) (by kernel_rfl) (by kernel_rfl)
  have hO := @run_callFunc_extern Tryz.prog 66 _ ReflectliteType.typeOf Tryz.func66 (by kernel_rfl) (by kernel_rfl) (by kernel_rfl) (by kernel_rfl)
  have hA := @run_callFunc_extern Tryz.prog 169 _ (ReflectliteType.relation "AssignableTo" ReflectliteType.assignableTo) Tryz.func169 (by kernel_rfl) (by kernel_rfl) (by kernel_rfl) (by kernel_rfl)
  have hV := @run_callFunc_extern Tryz.prog 67 _ (ReflectliteValue.method (ReflectliteValue.valueError "reflectlite.Value.Elem" 0) ReflectliteValue.elem) Tryz.func67 (by kernel_rfl) (by kernel_rfl) (by kernel_rfl) (by kernel_rfl)
  have hS := @run_callFunc_extern Tryz.prog 68 _ ReflectliteValue.set Tryz.func68 (by kernel_rfl) (by kernel_rfl) (by kernel_rfl) (by kernel_rfl)
  have tO := typeOfE
  have tA := typeOfA
  have aA := assignA
  have mU := methodUnwrap
  have nA := noAs
  have hU := hasUn
  have nU := nilAheadUn
  have aE := assignE
  have vE := valueOfE
  have f6 := valueOfP
  have f7 := typeP
  have kP := kindP
  have kE := kindE
  have eP := elemP
  have iE := implementsE
  have mK := methodKind
  have mE := methodElem
  have mI := methodImplements
  have mA := methodAssign
  have hgl : 0 < w.heap.size := cell_lt hg
  have htl : t.block < w.heap.size := cell_lt ht0
  have ha3 := cell_al (cell_al (cell_al hab (.cells #[.pointer (some t)] 61)) (.cells #[.pointer (some ⟨10, 61, none⟩), .pointer (some ⟨w.heap.size, 0, none⟩), .int .u64 150] 92)) (.cells #[.pointer (some ⟨10, 61, none⟩), .pointer (some ⟨w.heap.size, 0, none⟩), .int .u64 150] 92)
  have n8 := isNilP ⟨w.heap.size, 0, none⟩ t ((w.alloc (.cells #[.pointer (some t)] 61)).alloc (.cells #[.pointer (some ⟨10, 61, none⟩), .pointer (some ⟨w.heap.size, 0, none⟩), .int .u64 150] 92)) (by simp)
  have hg2 := cell_al (cell_al hg (.cells #[.pointer (some t)] 61)) (.cells #[.pointer (some ⟨10, 61, none⟩), .pointer (some ⟨w.heap.size, 0, none⟩), .int .u64 150] 92)
  have el := elemVP ⟨w.heap.size, 0, none⟩ t (((w.alloc (.cells #[.pointer (some t)] 61)).alloc (.cells #[.pointer (some ⟨10, 61, none⟩), .pointer (some ⟨w.heap.size, 0, none⟩), .int .u64 150] 92)).alloc (.cells #[.pointer (some ⟨10, 61, none⟩), .pointer (some ⟨w.heap.size, 0, none⟩), .int .u64 150] 92)) (cell_al (cell_al (hcell (hnew _ _) 0) _) _)
  have st := setE t ⟨w.heap.size + 1 + 1 + 1, 0, none⟩ n old ((((w.alloc (.cells #[.pointer (some t)] 61)).alloc (.cells #[.pointer (some ⟨10, 61, none⟩), .pointer (some ⟨w.heap.size, 0, none⟩), .int .u64 150] 92)).alloc (.cells #[.pointer (some ⟨10, 61, none⟩), .pointer (some ⟨w.heap.size, 0, none⟩), .int .u64 150] 92)).alloc (.cells #[.int .i64 n] 34))
    (by rw [World.cell?_alloc_at _ _ _ _ (by simp)]; rfl)
    (cell_al (cell_al (cell_al (cell_al ht0 _) _) _) _)
    (by rw [World.frozen?_alloc_old _ _ t (by simp; omega), World.frozen?_alloc_old _ _ t (by simp; omega), World.frozen?_alloc_old _ _ t (by simp; omega), World.frozen?_alloc_old _ _ t (Nat.ne_of_lt htl)]; exact hf0)
  go_enter Tryz.func21, Tryz.ntmps21
  go_wp2
  refine wp_loop_rounds 2 ?_
  rw [rounds_succ]
  go_wp2
  rw [rounds_succ]
  go_wp2
  go_ret
  exact ⟨rfl, _, ((((Below.refl _ _).alloc (Nat.le_refl _) _).alloc (by simp) _).alloc (by simp; omega) _).alloc (by simp; omega) _, rfl⟩
end Go.Proofs.YtjcoobkpmpjpbaaGreatDoor

namespace Go.Proofs.YtjcoobkpmpjpbaaGreatDoor
open Go.RowKit

theorem neqNil0 (w : World) : (binOp BinOp.neq 28 .nilIface .nilIface).run Tryz.prog w = .ok (.bool false) w := by kernel_rfl
theorem eqlNil0 (w : World) : (binOp BinOp.eql 28 .nilIface .nilIface).run Tryz.prog w = .ok (.bool true) w := by kernel_rfl

/-- The errors' type, where it lies. -/
def ErrT (w : World) : Prop := w.cell? ⟨0, 0, none⟩ = some errT
theorem ErrT.keep {w w' : World} (h : ErrT w) (hb : Below w.heap.size w w') : ErrT w' := cellk hb h (cell_lt h)

set_option maxRecDepth 100000 in
set_option maxHeartbeats 4000000 in
theorem tell_any {w : World} {v : Value} {n p : Int} (h : ErrAt w v n p) (hT : ErrT w) :
    Calls Tryz.prog 10 #[v] w fun e w' => e = .returned (.int .i64 n) ∧ Below w.heap.size w w' := by
  have HT := hide hT
  have hT2 := hide (cell_al hT (.cells #[.int .i64 0] 34))
  rcases h with ⟨rfl, rfl, rfl⟩ | ⟨rfl, rfl⟩ | ⟨b, rfl, h1, h2⟩
  · have q := eqlNil0
    clear hT
    go_enter Tryz.func10, Tryz.ntmps10
    go_wp2_with fail
    go_ret
    exact ⟨rfl, Below.refl _ _⟩
  · clear hT
    go_enter Tryz.func10, Tryz.ntmps10
    go_wp2_with fail
    refine (as_hit n ⟨w.heap.size, 0, none⟩ (.int .i64 0) _ (unhide hT2) (hcell (hnew _ _) 0) (hfroz (hnew _ _) 0)).mono ?_
    rintro e w2 ⟨rfl, w1, hb1, rfl⟩
    have hs1 : w.heap.size < w1.heap.size := by have := hb1.size; simp at this; omega
    obtain ⟨cs, hcs⟩ : ∃ t fr, w1.heap[w.heap.size]? = some (.cells #[.int .i64 0] t fr) := ⟨_, _, (hb1.block w.heap.size (by simp)).trans (hnew _ _)⟩
    obtain ⟨fr, hcs⟩ := hcs
    have k0 : (w1.setCell ⟨w.heap.size, 0, none⟩ (.int .i64 n)).cell? ⟨w.heap.size, 0, none⟩ = some (.int .i64 n) := (hcell (hset hcs (i := 0) _) 0).trans rfl
    have HB : Hid (Below w.heap.size w (w1.setCell ⟨w.heap.size, 0, none⟩ (.int .i64 n))) := (((Below.refl _ _).alloc (Nat.le_refl _) _).trans (hb1.mono (by simp))).setCell (p := ⟨w.heap.size, 0, none⟩) (Nat.le_refl _) _
    clear hb1 hcs
    go_wp2_with fail
    go_ret
    exact ⟨rfl, unhide HB⟩
  · clear hT
    have ha := hide (cell_al h1 (.cells #[.int .i64 0] 34))
    go_enter Tryz.func10, Tryz.ntmps10
    go_wp2_with fail
    refine (as_at n b ⟨w.heap.size, 0, none⟩ (.int .i64 0) _ (unhide hT2) (unhide ha) (hcell (hnew _ _) 0) (hfroz (hnew _ _) 0)).mono ?_
    rintro e w2 ⟨rfl, w1, hb1, rfl⟩
    obtain ⟨cs, fr, hcs⟩ : ∃ t fr, w1.heap[w.heap.size]? = some (.cells #[.int .i64 0] t fr) := ⟨_, _, (hb1.block w.heap.size (by simp)).trans (hnew _ _)⟩
    have k0 : (w1.setCell ⟨w.heap.size, 0, none⟩ (.int .i64 n)).cell? ⟨w.heap.size, 0, none⟩ = some (.int .i64 n) := (hcell (hset hcs (i := 0) _) 0).trans rfl
    have HB : Hid (Below w.heap.size w (w1.setCell ⟨w.heap.size, 0, none⟩ (.int .i64 n))) := (((Below.refl _ _).alloc (Nat.le_refl _) _).trans (hb1.mono (by simp))).setCell (p := ⟨w.heap.size, 0, none⟩) (Nat.le_refl _) _
    clear hb1 hcs
    go_wp2_with fail
    go_ret
    exact ⟨rfl, unhide HB⟩
end Go.Proofs.YtjcoobkpmpjpbaaGreatDoor

namespace Go.Proofs.YtjcoobkpmpjpbaaGreatDoor
open Go.RowKit
set_option linter.unusedVariables false

/-- A text with more behind it, which begins with a blank. -/
structure Sfx (s s' : ByteArray) : Prop where
  size : s.size < s'.size
  byte : ∀ (p : Nat) (h : p < s.size) (h' : p < s'.size), s'[p] = s[p]
  blank : ∀ h : s.size < s'.size, s'[s.size].toNat = 32
  ext : ∀ a b : Nat, b ≤ s.size → s'.extract a b = s.extract a b
  twin : ∀ p k : Nat, p < s.size → k < 3 → isTwin s' p k = isTwin s p k

theorem twin_list (a b : UInt8) (hb : (b == 32) = false) (D r : List UInt8) (hD : D ≠ []) : [a, b].isPrefixOf (D ++ 32 :: r) = [a, b].isPrefixOf D := by
  match D, hD with
  | [c], _ => simp [List.isPrefixOf, hb]
  | c :: d :: t, _ => simp [List.isPrefixOf]
theorem sfx_append (s x : ByteArray) (h0 : 0 < x.size) (hx : ∀ h : 0 < x.size, x[0].toNat = 32) (r : List UInt8) (hl : x.data.toList = 32 :: r) : Sfx s (s ++ x) := by
  have hz : (s ++ x).size = s.size + x.size := ByteArray.size_append
  refine ⟨by omega, fun p h h' => ByteArray.getElem_append_left h, fun h => ?_, fun a b hb => ?_, fun p k hp hk => ?_⟩
  · rw [ByteArray.getElem_append_right (Nat.le_refl _)]
    have e : s.size - s.size = 0 := Nat.sub_self _
    simp only [e]
    exact hx h0
  · apply ByteArray.ext
    rw [ByteArray.data_extract, ByteArray.data_extract, ByteArray.data_append, Array.extract_append]
    have e : x.data.extract (a - s.data.size) (b - s.data.size) = #[] := by
      have : b - s.data.size = 0 := by
        have : s.data.size = s.size := rfl
        omega
      rw [this]
      simp
    rw [e]
    simp
  · unfold isTwin Lib.hasPrefix
    have hsl : s.data.toList.length = s.size := rfl
    have e1 : ((s ++ x).extract p (s ++ x).size).data.toList = s.data.toList.drop p ++ 32 :: r := by
      rw [Lib.extract_data, ByteArray.data_append, Array.toList_append, hl, List.drop_append_of_le_length (by omega), List.take_of_length_le]
      have : (32 :: r).length = x.size := by rw [← hl]; rfl
      rw [List.length_append, List.length_drop, this]
      omega
    have e2 : (s.extract p s.size).data.toList = s.data.toList.drop p := by
      rw [Lib.extract_data, List.take_of_length_le]
      rw [List.length_drop]
      omega
    have hD : s.data.toList.drop p ≠ [] := by
      intro e
      have := congrArg List.length e
      rw [List.length_drop] at this
      simp at this
      omega
    rw [e1, e2]
    rcases (by omega : k = 0 ∨ k = 1 ∨ k = 2) with rfl | rfl | rfl
    · exact twin_list 124 124 (by decide) _ _ hD
    · exact twin_list 38 38 (by decide) _ _ hD
    · exact twin_list 61 61 (by decide) _ _ hD

theorem run_sfx {s s' : ByteArray} (h : Sfx s s') {B : Int → Bool} (hB : B 32 = false) : ∀ (f g p : Nat), p ≤ s.size → s.size - p ≤ f → s.size - p < g → runP s' B g p = runP s B f p
  | f, 0, p, _, _, hg => by omega
  | 0, g + 1, p, hp, hf, _ => by
    have e : p = s.size := by omega
    subst e
    rw [runP, runP, dif_pos h.size, h.blank h.size]
    show (if B 32 = true then _ else _) = _
    rw [hB]
    rfl
  | f + 1, g + 1, p, hp, hf, hg => by
    have hs := h.size
    rw [runP, runP]
    by_cases hlt : p < s.size
    · rw [dif_pos hlt, dif_pos (show p < s'.size by omega), h.byte p hlt (by omega)]
      split
      · exact run_sfx h hB f g (p + 1) (by omega) (by omega) (by omega)
      · rfl
    · have e : p = s.size := by omega
      subst e
      rw [dif_neg (Nat.lt_irrefl _), dif_pos hs, h.blank hs]
      show (if B 32 = true then _ else _) = _
      rw [hB]
      rfl
theorem byteAt_sfx {s s' : ByteArray} (h : Sfx s s') {p : Nat} (hp : p < s.size) : byteAt s' p = byteAt s p := by
  have hs := h.size
  unfold byteAt
  rw [dif_pos hp, dif_pos (show p < s'.size by omega), h.byte p hp (by omega)]
theorem byteAt_end {s s' : ByteArray} (h : Sfx s s') : byteAt s' s.size = 32 := by
  unfold byteAt
  rw [dif_pos h.size, h.blank h.size]
theorem str_sfx {s s' : ByteArray} (h : Sfx s s') : ∀ (f g p : Nat) (acc l : List UInt8) (q : Nat), f ≤ g → strP s f p acc = .inr (l, q) → strP s' g p acc = .inr (l, q)
  | 0, g, p, acc, l, q, _, hs => by rw [strP] at hs; cases hs
  | f + 1, 0, p, acc, l, q, hg, _ => by omega
  | f + 1, g + 1, p, acc, l, q, hg, hs => by
    have hz := h.size
    rw [strP] at hs ⊢
    split at hs
    · rename_i hp
      rw [byteAt_sfx h hp.1, if_pos ⟨by omega, hp.2⟩]
      split at hs
      · rename_i h34
        rw [if_pos h34]
        exact hs
      · rename_i h34
        rw [if_neg h34]
        split at hs
        · rename_i h92
          rw [if_pos h92]
          split at hs
          · rename_i hp1
            rw [byteAt_sfx h hp1.1, if_pos ⟨by omega, hp1.2⟩]
            split at hs
            · exact str_sfx h f g (p + 2) _ l q (by omega) hs
            · cases hs
          · cases hs
        · rename_i h92
          rw [if_neg h92]
          exact str_sfx h f g (p + 1) _ l q (by omega) hs
    · cases hs
theorem skip_sfx {s s' : ByteArray} (h : Sfx s s') : ∀ (f g p l : Nat), s.size - p ≤ f → s.size - p ≤ g → (skipP s f p l).1 < s.size → skipP s' g p l = skipP s f p l
  | 0, g, p, l, hf, _, hlt => by
    have : p < s.size := hlt
    omega
  | f + 1, 0, p, l, hf, hg, hlt => by
    rw [skipP] at hlt
    rw [dif_neg (by omega)] at hlt
    have : p < s.size := hlt
    omega
  | f + 1, g + 1, p, l, hf, hg, hlt => by
    have hz := h.size
    rw [skipP] at hlt ⊢
    rw [skipP]
    by_cases hp : p < s.size
    · rw [dif_pos hp] at hlt ⊢
      rw [dif_pos (show p < s'.size by omega), h.byte p hp (by omega)]
      split at hlt
      · rename_i h10
        rw [if_pos h10, if_pos h10]
        exact skip_sfx h f g (p + 1) (l + 1) (by omega) (by omega) hlt
      · rename_i h10
        rw [if_neg h10, if_neg h10]
        split at hlt
        · rename_i h32
          rw [if_pos h32, if_pos h32]
          exact skip_sfx h f g (p + 1) l (by omega) (by omega) hlt
        · rename_i h32
          rw [if_neg h32, if_neg h32]
    · rw [dif_neg hp] at hlt
      exact absurd hlt hp
theorem sign_sfx {s s' : ByteArray} (h : Sfx s s') {p : Nat} (hp : p < s.size) : signP s' p = signP s p := by
  have hz := h.size
  unfold signP
  rw [h.twin p 0 hp (by decide), h.twin p 1 hp (by decide), h.twin p 2 hp (by decide), dif_pos hp, dif_pos (show p < s'.size by omega), h.byte p hp (by omega)]

/-- A function and a class that stand behind a text. -/
def more : ByteArray := ⟨#[32, 102, 110, 32, 122, 122, 57, 40, 41, 32, 123, 125, 32, 99, 108, 97, 115, 115, 32, 90, 122, 57, 32, 123, 125]⟩
/-- Behind the shorter text comes the word fn. -/
structure Fnx (s s' : ByteArray) : Prop where
  sfx : Sfx s s'
  app : s' = s ++ more
  fn : ∀ T : LS, T.src = s' → T.pl = s.size → ∃ U, advP T = .inr U ∧ U.src = s' ∧ U.kd = 1 ∧ U.mrk = wFn ∧ U.dp = T.dp ∧ U.pl = s.size + 3 ∧ U.ln = T.ln ∧ U.tl = T.ln
/-- The reader of the longer text at the same token. -/
structure Sx (S S' : LS) : Prop where
  src : Sfx S.src S'.src
  pl : S'.pl = S.pl
  ln : S'.ln = S.ln
  kd : S'.kd = S.kd
  tp : S'.tp = S.tp
  tl : S'.tl = S.tl
  mrk : S'.mrk = S.mrk
  tx : S'.tx = S.tx
  nn : S'.nn = S.nn
  dp : S'.dp = S.dp
  fnx : Fnx S.src S'.src
theorem strT_sfx {s s' : ByteArray} (h : Sfx s s') {p : Nat} {acc l : List UInt8} {q : Nat} (hs : strT s p acc = .inr (l, q)) : strT s' p acc = .inr (l, q) := by
  have hz := h.size
  exact str_sfx h _ _ _ _ _ _ (by omega) hs
theorem wordEnd_sx {S S' : LS} (h : Sx S S') (hp : S.pl ≤ S.src.size) : wordEnd S' = wordEnd S := by
  have hz := h.src.size
  unfold wordEnd
  rw [h.pl]
  exact run_sfx h.src (by decide) _ _ _ hp (Nat.le_refl _) (by omega)
theorem numEnd_sx {S S' : LS} (h : Sx S S') (hp : S.pl ≤ S.src.size) : numEnd S' = numEnd S := by
  have hz := h.src.size
  unfold numEnd
  rw [h.pl]
  exact run_sfx h.src (by decide) _ _ _ hp (Nat.le_refl _) (by omega)
theorem wordAt_sx {S S' : LS} (h : Sx S S') (hp : S.pl ≤ S.src.size) : wordAt S' = wordAt S := by
  have e := wordEnd_sx h hp
  have hle := (runP_le S.src nb (S.src.size - S.pl) S.pl hp).2
  unfold wordEnd at e
  unfold wordAt
  rw [e, h.pl, h.src.ext _ _ hle]
theorem numAt_sx {S S' : LS} (h : Sx S S') (hp : S.pl ≤ S.src.size) : numAt S' = numAt S := by
  have e := numEnd_sx h hp
  have hle := (runP_le S.src dg (S.src.size - S.pl) S.pl hp).2
  unfold numEnd at e
  unfold numAt
  rw [e, h.pl, h.src.ext _ _ hle]
/-- A token that is there is there in the longer text too. -/
theorem advS_sx {S S' T : LS} (h : Sx S S') (hp : S.pl < S.src.size) (ha : advS S = .inr T) : ∃ T', advS S' = .inr T' ∧ Sx T T' := by
  have hz := h.src.size
  have hlt : S'.pl < S'.src.size := by rw [h.pl]; omega
  have e1 : byteAt S'.src S'.pl = byteAt S.src S.pl := by rw [h.pl]; exact byteAt_sfx h.src hp
  have e2 : signP S'.src S'.pl = signP S.src S.pl := by rw [h.pl]; exact sign_sfx h.src hp
  have hple : S.pl ≤ S.src.size := Nat.le_of_lt hp
  have hsg := sign_le hp
  unfold advS at ha ⊢
  rw [if_pos hp] at ha
  rw [if_pos hlt]
  simp only [e1, e2, wordAt_sx h hple, numAt_sx h hple, wordEnd_sx h hple, numEnd_sx h hple]
  split at ha
  · rename_i c1
    rw [if_pos c1]
    split at ha
    · rename_i c2
      rw [if_pos c2]
      cases ha
      exact ⟨_, rfl, ⟨h.src, rfl, h.ln, rfl, h.tp, h.tl, rfl, h.tx, h.nn, h.dp, h.fnx⟩⟩
    · rename_i c2
      rw [if_neg c2]
      split at ha
      · cases ha
      · rename_i c3
        rw [if_neg c3]
        cases ha
        exact ⟨_, rfl, ⟨h.src, rfl, h.ln, rfl, h.tp, h.tl, h.mrk, rfl, h.nn, h.dp, h.fnx⟩⟩
  · rename_i c1
    rw [if_neg c1]
    split at ha
    · rename_i c2
      rw [if_pos c2]
      split at ha
      · rename_i u hu
        split at ha
        · cases ha
        · rename_i c3
          cases ha
          rw [if_neg c3]
          exact ⟨_, rfl, ⟨h.src, rfl, h.ln, rfl, h.tp, h.tl, h.mrk, h.tx, rfl, h.dp, h.fnx⟩⟩
      · cases ha
    · rename_i c2
      rw [if_neg c2]
      split at ha
      · rename_i c3
        rw [if_pos c3]
        cases hs : strT S.src (S.pl + 1) [] with
        | inl q => rw [hs] at ha; cases ha
        | inr x =>
          obtain ⟨said, q⟩ := x
          rw [hs] at ha
          have hs' : strT S'.src (S'.pl + 1) [] = .inr (said, q) := by rw [h.pl]; exact strT_sfx h.src hs
          rw [hs']
          have ha' : (if 300 < said.length then (.inl (4, S.tp) : (Int × Nat) ⊕ LS) else .inr { S with pl := q, kd := 4, tx := ⟨said.toArray⟩ }) = .inr T := ha
          show ∃ T', (if 300 < said.length then (.inl (4, S'.tp) : (Int × Nat) ⊕ LS) else .inr { S' with pl := q, kd := 4, tx := ⟨said.toArray⟩ }) = .inr T' ∧ Sx T T'
          split at ha'
          · cases ha'
          · rename_i c4
            cases ha'
            rw [if_neg c4]
            exact ⟨_, rfl, ⟨h.src, rfl, h.ln, rfl, h.tp, h.tl, h.mrk, rfl, h.nn, h.dp, h.fnx⟩⟩
      · rename_i c3
        rw [if_neg c3]
        split at ha
        · cases ha
        · rename_i c4
          rw [if_neg c4]
          cases ha
          refine ⟨_, rfl, ⟨h.src, ?_, h.ln, rfl, h.tp, h.tl, ?_, h.tx, h.nn, h.dp, h.fnx⟩⟩
          · show S'.pl + _ = S.pl + _
            rw [h.pl]
          · show S'.src.extract S'.pl (S'.pl + _) = S.src.extract S.pl (S.pl + _)
            rw [h.pl, h.src.ext _ _ hsg]

/-- Where the shorter text ends in blanks, the longer one goes on from there. -/
theorem skip_to {s s' : ByteArray} (h : Sfx s s') : ∀ (f g p l : Nat), p ≤ s.size → s.size - p ≤ f → ¬ (skipP s f p l).1 < s.size → skipP s' (g + (s.size - p)) p l = skipP s' g s.size (skipP s f p l).2
  | 0, g, p, l, hp, hf, hn => by
    have e : p = s.size := by omega
    subst e
    rw [Nat.sub_self, Nat.add_zero]
    rfl
  | f + 1, g, p, l, hp, hf, hn => by
    have hz := h.size
    rw [skipP] at hn ⊢
    by_cases hlt : p < s.size
    · rw [dif_pos hlt] at hn ⊢
      rw [show g + (s.size - p) = (g + (s.size - (p + 1))) + 1 by omega, skipP, dif_pos (show p < s'.size by omega), h.byte p hlt (by omega)]
      split at hn
      · rename_i h10
        rw [if_pos h10, if_pos h10]
        exact skip_to h f g (p + 1) (l + 1) (by omega) (by omega) hn
      · rename_i h10
        rw [if_neg h10, if_neg h10]
        split at hn
        · rename_i h32
          rw [if_pos h32, if_pos h32]
          exact skip_to h f g (p + 1) l (by omega) (by omega) hn
        · exact absurd hlt hn
    · have e : p = s.size := by omega
      subst e
      rw [dif_neg (Nat.lt_irrefl _), Nat.sub_self, Nat.add_zero]

/-- The shorter text is at its end; the longer one is come to fn. -/
structure SxE (S S' : LS) : Prop where
  kd0 : S.kd = 0
  tp0 : S.tp = S.src.size
  fit : Fnx S.src S'.src
  kd : S'.kd = 1
  mrk : S'.mrk = wFn
  dp : S'.dp = S.dp
  pl : S'.pl = S.src.size + 3
  ln : S'.ln = S.ln
  tl : S'.tl = S.ln
def SxR (S S' : LS) : Prop := (Sx S S' ∧ S.kd ≠ 0) ∨ SxE S S'

theorem advS_kd {S T : LS} (hp : S.pl < S.src.size) (ha : advS S = .inr T) : T.kd ≠ 0 := by
  unfold advS at ha
  rw [if_pos hp] at ha
  split at ha
  · split at ha
    · cases ha; show (1 : Nat) ≠ 0; decide
    · split at ha
      · cases ha
      · cases ha; show (2 : Nat) ≠ 0; decide
  · split at ha
    · split at ha
      · split at ha
        · cases ha
        · cases ha; show (3 : Nat) ≠ 0; decide
      · cases ha
    · split at ha
      · split at ha
        · cases ha
        · split at ha
          · cases ha
          · cases ha; show (4 : Nat) ≠ 0; decide
      · split at ha
        · cases ha
        · cases ha; show (1 : Nat) ≠ 0; decide

/-- The next token, of both texts. -/
theorem advP_sx {S S' T : LS} (h : Sx S S') (fit : Fit S) (ha : advP S = .inr T) : ∃ T', advP S' = .inr T' ∧ SxR T T' := by
  have hz := h.src.size
  have hf := h.fnx
  have hpl := fit.pl
  unfold advP at ha
  by_cases hlt : (skipP S.src (S.src.size - S.pl) S.pl S.ln).1 < S.src.size
  · have e : skipP S'.src (S'.src.size - S'.pl) S'.pl S'.ln = skipP S.src (S.src.size - S.pl) S.pl S.ln := by
      rw [h.pl, h.ln]
      exact skip_sfx h.src _ _ _ _ (Nat.le_refl _) (by omega) hlt
    generalize skipP S.src (S.src.size - S.pl) S.pl S.ln = z at *
    have hx : Sx (S.fresh z.1 z.2) (S'.fresh z.1 z.2) := ⟨h.src, rfl, rfl, rfl, rfl, rfl, rfl, rfl, rfl, h.dp, h.fnx⟩
    obtain ⟨T', h1, h2⟩ := advS_sx hx hlt ha
    exact ⟨T', by rw [advP, e]; exact h1, Or.inl ⟨h2, advS_kd (S := S.fresh z.1 z.2) hlt ha⟩⟩
  · have e := skip_to h.src (S.src.size - S.pl) (S'.src.size - S.src.size) S.pl S.ln hpl (Nat.le_refl _) hlt
    rw [show S'.src.size - S.src.size + (S.src.size - S.pl) = S'.src.size - S.pl by omega] at e
    have hend : advS (S.fresh (skipP S.src (S.src.size - S.pl) S.pl S.ln).1 (skipP S.src (S.src.size - S.pl) S.pl S.ln).2) = .inr (S.fresh (skipP S.src (S.src.size - S.pl) S.pl S.ln).1 (skipP S.src (S.src.size - S.pl) S.pl S.ln).2) := advS_end hlt
    rw [hend] at ha
    cases ha
    have hge := (skipP_ge S.src (S.src.size - S.pl) S.pl S.ln fit.pl fit.ln).2.1
    have htp : (skipP S.src (S.src.size - S.pl) S.pl S.ln).1 = S.src.size := by omega
    generalize (skipP S.src (S.src.size - S.pl) S.pl S.ln).2 = l1 at *
    obtain ⟨U, u1, u2, u3, u4, u5, u6, u7, u8⟩ := hf.fn { S' with pl := S.src.size, ln := l1 } rfl rfl
    have e2 : advP S' = advP { S' with pl := S.src.size, ln := l1 } := by
      unfold advP
      show advS (S'.fresh (skipP S'.src (S'.src.size - S'.pl) S'.pl S'.ln).1 (skipP S'.src (S'.src.size - S'.pl) S'.pl S'.ln).2) = advS (S'.fresh (skipP S'.src (S'.src.size - S.src.size) S.src.size l1).1 (skipP S'.src (S'.src.size - S.src.size) S.src.size l1).2)
      rw [h.pl, h.ln, e]
    refine ⟨U, e2.trans u1, Or.inr ⟨rfl, htp, ?_, u3, u4, ?_, u6, u7, u8⟩⟩
    · rw [u2]
      exact hf
    · rw [u5]
      exact h.dp
end Go.Proofs.YtjcoobkpmpjpbaaGreatDoor

namespace Go.Proofs.YtjcoobkpmpjpbaaGreatDoor
open Go.RowKit
set_option linter.unusedVariables false

/-- What reads the shorter text reads the longer one alike, as far as it goes. -/
def SfP {α : Type} (P : LS → Res α) : Prop := ∀ S S', Ok S → SxR S S' → ∀ a T, P S = .inr (a, T) → Ok T ∧ ∃ T', P S' = .inr (a, T') ∧ SxR T T'

theorem bnd_sf {α β : Type} {t t' : Res α} {k k' : α → LS → Res β} (h : ∀ a T, t = .inr (a, T) → Ok T ∧ ∃ T', t' = .inr (a, T') ∧ SxR T T')
    (hk : ∀ a T T', Ok T → SxR T T' → ∀ b U, k a T = .inr (b, U) → Ok U ∧ ∃ U', k' a T' = .inr (b, U') ∧ SxR U U') : ∀ b U, bnd t k = .inr (b, U) → Ok U ∧ ∃ U', bnd t' k' = .inr (b, U') ∧ SxR U U' := by
  intro b U hb
  obtain ⟨a, T, h1, h2⟩ := bnd_some hb
  obtain ⟨ok, T', h3, h4⟩ := h a T h1
  obtain ⟨ok2, U', h5, h6⟩ := hk a T T' ok h4 b U h2
  exact ⟨ok2, U', by rw [bnd_inr h3]; exact h5, h6⟩
theorem inr_sf {α : Type} {a : α} {S S' : LS} (ok : Ok S) (h : SxR S S') : ∀ b U, (.inr (a, S) : Res α) = .inr (b, U) → Ok U ∧ ∃ U', (.inr (a, S') : Res α) = .inr (b, U') ∧ SxR U U' := by
  intro b U e
  cases e
  exact ⟨ok, S', rfl, h⟩
theorem inl_sf {α : Type} {f f' : Int × Nat} : ∀ (b : α) (U : LS), (.inl f : Res α) = .inr (b, U) → Ok U ∧ ∃ U', (.inl f' : Res α) = .inr (b, U') ∧ SxR U U' := by
  intro b U e
  cases e

/-- The end: a reader that must go on does not. -/
theorem end_tp {S : LS} (ok : Ok S) (S' : LS) (h : On S S') (hk : S.kd = 0) (ht : S.tp = S.src.size) : False := by
  have h1 := h.tp
  have h2 := h.ok.tp
  have h3 := h.ok.fit.pl
  have h4 := h.same.src
  rw [h4] at h3
  omega
theorem Sx.is {S S' : LS} (h : Sx S S') (m : ByteArray) : S'.is m = S.is m := by
  unfold LS.is
  rw [h.kd, h.mrk]
theorem SxE.is {S S' : LS} (h : SxE S S') {m : ByteArray} (hm : (wFn.toList == m.toList) = false) : S'.is m = false ∧ S.is m = false := by
  unfold LS.is
  rw [h.kd, h.mrk, h.kd0, hm]
  exact ⟨rfl, rfl⟩
theorem SxR.is {S S' : LS} (h : SxR S S') {m : ByteArray} (hm : (wFn.toList == m.toList) = false) : S'.is m = S.is m := by
  rcases h with h | h
  · exact h.1.is m
  · rw [(h.is hm).1, (h.is hm).2]
theorem take_sf {S S' : LS} (ok : Ok S) (h : Sx S S') : ∀ a T, takeP S = .inr (a, T) → Ok T ∧ ∃ T', takeP S' = .inr (a, T') ∧ SxR T T' := by
  intro a T ht
  have ha := takeP_ok ht
  obtain ⟨T', h1, h2⟩ := advP_sx h ok.fit ha
  exact ⟨(advP_ok ok.fit ha).1, T', by rw [takeP, h1], h2⟩
theorem SxR.some {S S' : LS} (h : SxR S S') (hk : S.kd ≠ 0) : Sx S S' := by
  rcases h with h | h
  · exact h.1
  · exact absurd h.kd0 hk
theorem accept_sf {m : ByteArray} (hm : (wFn.toList == m.toList) = false) : SfP (acceptP m) := by
  intro S S' ok h a T ha
  cases hb : S.is m with
  | true =>
    rw [acceptP, if_pos hb] at ha
    rw [acceptP, if_pos (by rw [h.is hm, hb])]
    exact bnd_sf (take_sf ok (h.some (is_kd hb))) (fun _ _ _ ok h => inr_sf ok h) a T ha
  | false =>
    rw [acceptP, if_neg (by rw [hb]; decide)] at ha
    rw [acceptP, if_neg (by rw [h.is hm, hb]; decide)]
    exact inr_sf ok h a T ha
theorem want_sf {m : ByteArray} (hm : (wFn.toList == m.toList) = false) : SfP (wantP m) := by
  intro S S' ok h a T ha
  cases hb : S.is m with
  | true =>
    rw [wantP, if_pos hb] at ha
    rw [wantP, if_pos (by rw [h.is hm, hb])]
    exact take_sf ok (h.some (is_kd hb)) a T ha
  | false =>
    rw [wantP, if_neg (by rw [hb]; decide)] at ha
    cases ha
theorem name_sf : SfP nameP := by
  intro S S' ok h a T ha
  by_cases hk : S.kd = 2
  · have hx := h.some (by omega)
    rw [nameP, if_pos hk] at ha
    rw [nameP, if_pos (by rw [hx.kd, hk]), hx.tx]
    exact bnd_sf (take_sf ok hx) (fun _ _ _ ok h => inr_sf ok h) a T ha
  · rw [nameP, if_neg hk] at ha
    cases ha
theorem limit_sf (n : Nat) : SfP (limitP n) := by
  intro S S' ok h a T ha
  unfold limitP at ha ⊢
  split at ha
  · cases ha
  · rename_i hn
    rw [if_neg hn]
    exact inr_sf ok h a T ha

/-- The same, but of a token that is there. -/
def SfQ {α : Type} (P : LS → Res α) : Prop := ∀ S S', Ok S → Sx S S' → ∀ a T, P S = .inr (a, T) → Ok T ∧ ∃ T', P S' = .inr (a, T') ∧ SxR T T'
theorem SfP.of {α : Type} {P : LS → Res α} (hg : Good P) (h : SfQ P) : SfP P := by
  intro S S' ok hr a T e
  rcases hr with hr | hr
  · exact h S S' ok hr.1 a T e
  · exact (end_tp ok T (hg S a T ok e) hr.kd0 hr.tp0).elim
theorem SfP.q {α : Type} {P : LS → Res α} (h : SfP P) {S S' : LS} (ok : Ok S) (hx : Sx S S') (hk : S.kd ≠ 0) : ∀ a T, P S = .inr (a, T) → Ok T ∧ ∃ T', P S' = .inr (a, T') ∧ SxR T T' := h S S' ok (Or.inl ⟨hx, hk⟩)
theorem ite_sf {α : Type} {c c' : Prop} [Decidable c] [Decidable c'] {a a' b b' : Res α} (hc : c' ↔ c) (ha : c → ∀ x T, a = .inr (x, T) → Ok T ∧ ∃ T', a' = .inr (x, T') ∧ SxR T T') (hb : ¬ c → ∀ x T, b = .inr (x, T) → Ok T ∧ ∃ T', b' = .inr (x, T') ∧ SxR T T') :
    ∀ x T, (if c then a else b) = .inr (x, T) → Ok T ∧ ∃ T', (if c' then a' else b') = .inr (x, T') ∧ SxR T T' := by
  intro x T h
  by_cases hh : c
  · rw [if_pos hh] at h
    rw [if_pos (hc.2 hh)]
    exact ha hh x T h
  · rw [if_neg hh] at h
    rw [if_neg (fun z => hh (hc.1 z))]
    exact hb hh x T h
theorem Sx.iff {S S' : LS} (h : Sx S S') (m : ByteArray) : (S'.is m = true) ↔ (S.is m = true) := by rw [h.is]
theorem SxR.iff {S S' : LS} (h : SxR S S') {m : ByteArray} (hm : (wFn.toList == m.toList) = false) : (S'.is m = true) ↔ (S.is m = true) := by rw [h.is hm]

theorem leaf_sf (k : Nat) : SfQ (leafP k) := by
  intro S S' ok h
  unfold leafP
  rw [h.tx, h.nn, h.tl]
  exact bnd_sf (take_sf ok h) fun _ _ _ ok h => inr_sf ok h
theorem param_sf : SfP paramP := SfP.of paramP_good (by
  intro S S' ok h
  unfold paramP
  rw [h.tl]
  by_cases hk : S.kd = 0
  · intro a T e
    obtain ⟨b, U, h1, _⟩ := bnd_some e
    rw [nameP, if_neg (by omega)] at h1
    cases h1
  · exact bnd_sf (name_sf.q ok h hk) fun _ _ _ ok h => inr_sf ok h)
theorem listLoop_sf {shut : ByteArray} (hm : (wFn.toList == shut.toList) = false) {P : LS → Res Tree} (hP : SfP P) : ∀ (f : Nat) (acc : List Tree), SfP (listLoop shut P f acc)
  | 0, acc => fun S S' ok h a T e => by cases e
  | f + 1, acc => fun S S' ok h => by
    rw [listLoop, listLoop]
    refine bnd_sf (limit_sf acc.length S S' ok h) fun _ S0 S0' ok0 h0 => ?_
    refine bnd_sf (hP S0 S0' ok0 h0) fun t S1 S1' ok1 h1 => ?_
    refine bnd_sf (accept_sf hm S1 S1' ok1 h1) fun b S2 S2' ok2 h2 => ?_
    refine ite_sf Iff.rfl (fun _ => inr_sf ok2 h2) fun _ => ?_
    refine bnd_sf (want_sf (m := tComma) (by kernel_rfl) S2 S2' ok2 h2) fun _ S3 S3' ok3 h3 => ?_
    exact listLoop_sf hm hP f _ S3 S3' ok3 h3
theorem listed_sf {shut : ByteArray} (hm : (wFn.toList == shut.toList) = false) {P : LS → Res Tree} (hP : SfP P) : SfP (listedP shut P) := fun S S' ok h => by
  unfold listedP
  refine bnd_sf (accept_sf hm S S' ok h) fun b S1 S1' ok1 h1 => ?_
  refine ite_sf Iff.rfl (fun _ => inr_sf ok1 h1) fun _ => ?_
  exact listLoop_sf hm hP 9 [] S1 S1' ok1 h1
theorem until_sf {shut : ByteArray} (hm : (wFn.toList == shut.toList) = false) {P : LS → Res Tree} (hP : SfP P) : ∀ (f : Nat) (acc : List Tree), SfP (untilP shut P f acc)
  | 0, acc => fun S S' ok h a T e => by cases e
  | f + 1, acc => fun S S' ok h => by
    rw [untilP, untilP]
    refine bnd_sf (accept_sf hm S S' ok h) fun b S1 S1' ok1 h1 => ?_
    refine ite_sf Iff.rfl (fun _ => inr_sf ok1 h1) fun _ => ?_
    refine bnd_sf (hP S1 S1' ok1 h1) fun t S2 S2' ok2 h2 => ?_
    exact until_sf hm hP f _ S2 S2' ok2 h2
end Go.Proofs.YtjcoobkpmpjpbaaGreatDoor
