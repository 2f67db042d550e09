/-
  errors.As at a number: closed facts, and the entries that read or write memory.
  errors.As at a number, walked; what an error tells, and its place.
  errors.As at an error with a place.
  What an error tells, and its place.
  An error's number and place, held against the document's.
  Whether an image may be run: both sides say the same.
  Bytes are read as an image, or refused.
  Any bytes are those of an image that may be run, or refused: the law.
-/
import Derived.Test.YtkafldkhmkdafaaDoorM26
import Derived.LaidEql
import Derived.Stop.Asserts
import Derived.RowKitTokens
namespace Go.Proofs.YtkafldkhmkdafaaDoor
open Go.RowKit Go.Extern.Stop Go.Stop Go.Extern

theorem as_nil (t : Value) (w : World) : Calls Tryd.prog 40 #[.nilIface, t] w fun e w' => e = .returned (.bool false) ∧ w' = w := by
  go_enter Tryd.func40, Tryd.ntmps40
  go_wp2_with fail
  go_ret
  exact ⟨rfl, rfl⟩

theorem valueOfP (t : Addr) (w : World) : (ReflectliteValue.unpack (.iface 121 (.pointer (some t)))).run Tryd.prog w
    = .ok (.agg #[.pointer (some ⟨2, 121, none⟩), .pointer (some ⟨w.heap.size, 0, none⟩), .int .u64 150]) (w.alloc (.cells #[.pointer (some t)] 121)) := by kernel_rfl
theorem typeP (a : Addr) (w : World) : (ReflectliteValue.methodAny (ReflectliteValue.valueError "reflectlite.Value.Type" 0) (fun t _ _ _ => ReflectliteType.toType t) #[.agg #[.pointer (some ⟨2, 121, none⟩), .pointer (some a), .int .u64 150]]).run Tryd.prog w
    = .ok (.iface 153 (.agg #[.pointer (some ⟨2, 121, none⟩)])) w := by kernel_rfl
theorem kindP (w : World) : ((ReflectliteType.abiMethod fun t => Functor.map (fun a : Nat => Value.int IntKind.u8 (a : Int)) (Rtype.kind t)) #[.pointer (some ⟨2, 121, none⟩)]).run Tryd.prog w = .ok (.int .u8 22) w := by kernel_rfl
theorem kindE (w : World) : ((ReflectliteType.abiMethod fun t => Functor.map (fun a : Nat => Value.int IntKind.u8 (a : Int)) (Rtype.kind t)) #[.pointer (some ⟨2, 33, none⟩)]).run Tryd.prog w = .ok (.int .u8 2) w := by kernel_rfl
theorem partsP (a : Addr) (w : World) : (ReflectliteValue.parts (.agg #[.pointer (some ⟨2, 121, none⟩), .pointer (some a), .int .u64 150])).run Tryd.prog w = .ok (some (121, a, 150)) w := by kernel_rfl
theorem isNilP (a p : Addr) (W : World) (ha : W.cell? a = some (.pointer (some p))) :
    (ReflectliteValue.method (ReflectliteValue.valueError "reflectlite.Value.IsNil" 0) ReflectliteValue.isNil #[.agg #[.pointer (some ⟨2, 121, none⟩), .pointer (some a), .int .u64 150]]).run Tryd.prog W = .ok (.bool false) W := by
  refine (congrArg (fun s : Sem Value => s.run Tryd.prog W) (show ReflectliteValue.method _ _ _ = (ReflectliteValue.parts (.agg #[.pointer (some ⟨2, 121, none⟩), .pointer (some a), .int .u64 150]) >>= _) from rfl)).trans ?_
  simp only [Sem.run_bind, partsP, Result.andThen]
  simp [ReflectliteValue.isNil, loadVar, isAgg, underlying, Tryd.underlying121, ha, Result.andThen]
theorem elemP (w : World) : (ReflectliteType.method ReflectliteType.elem #[.agg #[.pointer (some ⟨2, 121, none⟩)]]).run Tryd.prog w = .ok (.iface 153 (.agg #[.pointer (some ⟨2, 33, none⟩)])) w := by kernel_rfl
theorem implementsE (w : World) : (ReflectliteType.relation "Implements" ReflectliteType.implements_ #[.agg #[.pointer (some ⟨2, 33, none⟩)], .iface 153 (.agg #[.pointer (some ⟨2, 30, none⟩)])]).run Tryd.prog w = .ok (.bool true) w := by kernel_rfl
theorem typeOfE (v : Value) (w : World) : (ReflectliteType.typeOf #[.iface 33 v]).run Tryd.prog w = .ok (.iface 153 (.agg #[.pointer (some ⟨2, 33, none⟩)])) w := by kernel_rfl
theorem typeOfA (v : Value) (w : World) : (ReflectliteType.typeOf #[.iface 59 v]).run Tryd.prog w = .ok (.iface 153 (.agg #[.pointer (some ⟨2, 59, none⟩)])) w := by kernel_rfl
theorem assignE (w : World) : (ReflectliteType.relation "AssignableTo" ReflectliteType.assignableTo #[.agg #[.pointer (some ⟨2, 33, none⟩)], .iface 153 (.agg #[.pointer (some ⟨2, 33, none⟩)])]).run Tryd.prog w = .ok (.bool true) w := by kernel_rfl
theorem assignA (w : World) : (ReflectliteType.relation "AssignableTo" ReflectliteType.assignableTo #[.agg #[.pointer (some ⟨2, 59, none⟩)], .iface 153 (.agg #[.pointer (some ⟨2, 33, none⟩)])]).run Tryd.prog w = .ok (.bool false) w := by kernel_rfl
theorem valueOfE (n : Int) (w : World) : (ReflectliteValue.unpack (.iface 33 (.int .i64 n))).run Tryd.prog w
    = .ok (.agg #[.pointer (some ⟨2, 33, none⟩), .pointer (some ⟨w.heap.size, 0, none⟩), .int .u64 130]) (w.alloc (.cells #[.int .i64 n] 33)) := by kernel_rfl
theorem elemOfP (w : World) : (Rtype.elem? 121).run Tryd.prog w = .ok (some 33) w := by kernel_rfl
theorem mkE (p : Addr) (w : World) : (ReflectliteValue.mk 33 p ReflectliteValue.flagAddr).run Tryd.prog w = .ok (.agg #[.pointer (some ⟨2, 33, none⟩), .pointer (some p), .int .u64 386]) w := by kernel_rfl
theorem elemVP (a p : Addr) (W : World) (ha : W.cell? a = some (.pointer (some p))) :
    (ReflectliteValue.method (ReflectliteValue.valueError "reflectlite.Value.Elem" 0) ReflectliteValue.elem #[.agg #[.pointer (some ⟨2, 121, none⟩), .pointer (some a), .int .u64 150]]).run Tryd.prog W
      = .ok (.agg #[.pointer (some ⟨2, 33, none⟩), .pointer (some p), .int .u64 386]) W := by
  refine (congrArg (fun s : Sem Value => s.run Tryd.prog W) (show ReflectliteValue.method _ _ _ = (ReflectliteValue.parts (.agg #[.pointer (some ⟨2, 121, none⟩), .pointer (some a), .int .u64 150]) >>= _) from rfl)).trans ?_
  simp only [Sem.run_bind, partsP, Result.andThen]
  simp [ReflectliteValue.elem, loadVar, isAgg, underlying, Tryd.underlying121, ha, Result.andThen, elemOfP, mkE]
theorem partsEa (a : Addr) (w : World) : (ReflectliteValue.parts (.agg #[.pointer (some ⟨2, 33, none⟩), .pointer (some a), .int .u64 386])).run Tryd.prog w = .ok (some (33, a, 386)) w := by kernel_rfl
theorem partsE (a : Addr) (w : World) : (ReflectliteValue.parts (.agg #[.pointer (some ⟨2, 33, none⟩), .pointer (some a), .int .u64 130])).run Tryd.prog w = .ok (some (33, a, 130)) w := by kernel_rfl
theorem directE (w : World) : (Rtype.directlyAssignable 33 33).run Tryd.prog w = .ok true w := by kernel_rfl
theorem setE (ta b : Addr) (n : Int) (old : Value) (W : World) (hb : W.cell? b = some (.int .i64 n)) (ht : W.cell? ta = some old) (hf : W.frozen? ta = false) :
    (ReflectliteValue.set #[.agg #[.pointer (some ⟨2, 33, none⟩), .pointer (some ta), .int .u64 386], .agg #[.pointer (some ⟨2, 33, none⟩), .pointer (some b), .int .u64 130]]).run Tryd.prog W
      = .ok (.tuple #[]) (W.setCell ta (.int .i64 n)) := by
  refine (congrArg (fun s : Sem Value => s.run Tryd.prog W) (show ReflectliteValue.set _ = (ReflectliteValue.parts (.agg #[.pointer (some ⟨2, 33, none⟩), .pointer (some ta), .int .u64 386]) >>= fun p => ReflectliteValue.parts (.agg #[.pointer (some ⟨2, 33, none⟩), .pointer (some b), .int .u64 130]) >>= _) from rfl)).trans ?_
  simp only [Sem.run_bind, partsEa, partsE, Result.andThen]
  simp [ReflectliteValue.flagAddr, loadVar, isAgg, underlying, Tryd.underlying33, hb, Result.andThen, directE, storeVar, Value.cells, storeCells, Addr.add]
  rw [run_store Tryd.prog W ta _ _ (by rfl)]
  simp [ht, hf]
end Go.Proofs.YtkafldkhmkdafaaDoor

namespace Go.Proofs.YtkafldkhmkdafaaDoor
open Go.RowKit Go.Extern.Stop Go.Stop Go.Extern

def errT : Value := .iface 153 (.agg #[.pointer (some ⟨2, 30, none⟩)])

theorem methodKind (h : Value) (w : World) : (Go.method 292 153 (.agg #[h]) "Kind").run Tryd.prog w = .ok (82, h) w := by kernel_rfl
theorem methodElem (h : Value) (w : World) : (Go.method 292 153 (.agg #[h]) "Elem").run Tryd.prog w = .ok (94, .agg #[h]) w := by kernel_rfl
theorem methodImplements (h : Value) (w : World) : (Go.method 292 153 (.agg #[h]) "Implements").run Tryd.prog w = .ok (95, .agg #[h]) w := by kernel_rfl
theorem methodAssign (h : Value) (w : World) : (Go.method 292 153 (.agg #[h]) "AssignableTo").run Tryd.prog w = .ok (92, .agg #[h]) w := by kernel_rfl
theorem methodUnwrap (p : Option Addr) (w : World) : (Go.method 292 59 (.pointer p) "Unwrap").run Tryd.prog w = .ok (87, .pointer p) w := by kernel_rfl

set_option maxRecDepth 100000 in
set_option maxHeartbeats 4000000 in
theorem as_hit (n : Int) (t : Addr) (old : Value) (w : World) (hg : w.cell? ⟨1, 0, none⟩ = some errT) (ht0 : w.cell? t = some old) (hf0 : w.frozen? t = false) :
    Calls Tryd.prog 40 #[.iface 33 (.int .i64 n), .iface 121 (.pointer (some t))] w fun ev w' => ev = .returned (.bool true) ∧ ∃ w1, Below w.heap.size w w1 ∧ w' = w1.setCell t (.int .i64 n) := by
  unfold errT at hg
  have h6 := @run_callFunc_extern Tryd.prog 58 _ (fun args => ReflectliteValue.unpack (args.getD 0 (.tuple #[]))) Tryd.func58 (by kernel_rfl) (by kernel_rfl) (by kernel_rfl) (by kernel_rfl)
  have h7 := @run_callFunc_extern Tryd.prog 59 _ (ReflectliteValue.methodAny (ReflectliteValue.valueError "reflectlite.Value.Type" 0) (fun t _ _ _ => ReflectliteType.toType t)) Tryd.func59 (by kernel_rfl) (by kernel_rfl) (by kernel_rfl) (by kernel_rfl)
  have h8 := @run_callFunc_extern Tryd.prog 60 _ (ReflectliteValue.method (ReflectliteValue.valueError "reflectlite.Value.IsNil" 0) ReflectliteValue.isNil) Tryd.func60 (by kernel_rfl) (by kernel_rfl) (by kernel_rfl) (by kernel_rfl)
  have hK := @run_callFunc_extern Tryd.prog 82 _ (ReflectliteType.abiMethod fun t => do pure (.int .u8 (← Rtype.kind t))) Tryd.func82 (by kernel_rfl) (by kernel_rfl) (by kernel_rfl) (by kernel_rfl)
  have hE := @run_callFunc_extern Tryd.prog 94 _ (ReflectliteType.method ReflectliteType.elem) Tryd.func94 (by kernel_rfl) (by kernel_rfl) (by kernel_rfl) (by kernel_rfl)
  have hI := @run_callFunc_extern Tryd.prog 95 _ (ReflectliteType.relation "Implements" ReflectliteType.implements_) Tryd.func95 (by kernel_rfl) (by kernel_rfl) (by kernel_rfl) (by kernel_rfl)
  have hO := @run_callFunc_extern Tryd.prog 65 _ ReflectliteType.typeOf Tryd.func65 (by kernel_rfl) (by kernel_rfl) (by kernel_rfl) (by kernel_rfl)
  have hA := @run_callFunc_extern Tryd.prog 92 _ (ReflectliteType.relation "AssignableTo" ReflectliteType.assignableTo) Tryd.func92 (by kernel_rfl) (by kernel_rfl) (by kernel_rfl) (by kernel_rfl)
  have hV := @run_callFunc_extern Tryd.prog 66 _ (ReflectliteValue.method (ReflectliteValue.valueError "reflectlite.Value.Elem" 0) ReflectliteValue.elem) Tryd.func66 (by kernel_rfl) (by kernel_rfl) (by kernel_rfl) (by kernel_rfl)
  have hS := @run_callFunc_extern Tryd.prog 67 _ ReflectliteValue.set Tryd.func67 (by kernel_rfl) (by kernel_rfl) (by kernel_rfl) (by kernel_rfl)
  have tO := typeOfE
  have aE := assignE
  have vE := valueOfE
  have f6 := valueOfP
  have f7 := typeP
  have kP := kindP
  have kE := kindE
  have eP := elemP
  have iE := implementsE
  have mK := methodKind
  have mE := methodElem
  have mI := methodImplements
  have mA := methodAssign
  have hgl : 1 < w.heap.size := cell_lt hg
  have htl : t.block < w.heap.size := cell_lt ht0
  have n8 := isNilP ⟨w.heap.size, 0, none⟩ t ((w.alloc (.cells #[.pointer (some t)] 121)).alloc (.cells #[.pointer (some ⟨2, 121, none⟩), .pointer (some ⟨w.heap.size, 0, none⟩), .int .u64 150] 141)) (by simp)
  have hg2 := cell_al (cell_al hg (.cells #[.pointer (some t)] 121)) (.cells #[.pointer (some ⟨2, 121, none⟩), .pointer (some ⟨w.heap.size, 0, none⟩), .int .u64 150] 141)
  have el := elemVP ⟨w.heap.size, 0, none⟩ t (((w.alloc (.cells #[.pointer (some t)] 121)).alloc (.cells #[.pointer (some ⟨2, 121, none⟩), .pointer (some ⟨w.heap.size, 0, none⟩), .int .u64 150] 141)).alloc (.cells #[.pointer (some ⟨2, 121, none⟩), .pointer (some ⟨w.heap.size, 0, none⟩), .int .u64 150] 141)) (cell_al (cell_al (hcell (hnew _ _) 0) _) _)
  have st := setE t ⟨w.heap.size + 1 + 1 + 1, 0, none⟩ n old ((((w.alloc (.cells #[.pointer (some t)] 121)).alloc (.cells #[.pointer (some ⟨2, 121, none⟩), .pointer (some ⟨w.heap.size, 0, none⟩), .int .u64 150] 141)).alloc (.cells #[.pointer (some ⟨2, 121, none⟩), .pointer (some ⟨w.heap.size, 0, none⟩), .int .u64 150] 141)).alloc (.cells #[.int .i64 n] 33))
    (by rw [World.cell?_alloc_at _ _ _ _ (by simp)]; rfl)
    (cell_al (cell_al (cell_al (cell_al ht0 _) _) _) _)
    (by rw [World.frozen?_alloc_old _ _ t (by simp; omega), World.frozen?_alloc_old _ _ t (by simp; omega), World.frozen?_alloc_old _ _ t (by simp; omega), World.frozen?_alloc_old _ _ t (Nat.ne_of_lt htl)]; exact hf0)
  go_enter Tryd.func40, Tryd.ntmps40
  go_wp2
  refine wp_loop_rounds 1 ?_
  rw [rounds_succ]
  go_wp2
  go_ret
  exact ⟨rfl, _, ((((Below.refl _ _).alloc (Nat.le_refl _) _).alloc (by simp) _).alloc (by simp; omega) _).alloc (by simp; omega) _, rfl⟩
end Go.Proofs.YtkafldkhmkdafaaDoor

namespace Go.Proofs.YtkafldkhmkdafaaDoor
open Go.RowKit Go.Extern.Stop Go.Stop Go.Extern

theorem noAs (v : Value) (xT : TypeId) (w : World) : (Go.Instr.typeAssert (.iface 59 v) xT 158 true).run Tryd.prog w = .ok (.tuple #[.nilIface, .bool false]) w := run_typeAssert_lacksB Tryd.underlying158 (by kernel_rfl) (by kernel_rfl) v xT w
theorem hasUn (v : Value) (xT : TypeId) (w : World) : (Go.Instr.typeAssert (.iface 59 v) xT 95 true).run Tryd.prog w = .ok (.tuple #[.iface 59 v, .bool true]) w := run_typeAssert_hasB Tryd.underlying95 (by kernel_rfl) v xT w
theorem nilAheadUn (a : Addr) (w : World) : (nilAhead 292 59 (.pointer (some a)) "Unwrap").run Tryd.prog w = .ok (some false) w := by kernel_rfl

set_option maxRecDepth 100000 in
set_option maxHeartbeats 4000000 in
theorem as_at (n : Int) (ab : Nat) (t : Addr) (old : Value) (w : World) (hg : w.cell? ⟨1, 0, none⟩ = some errT) (hab : w.cell? ⟨ab, 0, none⟩ = some (.int .i64 n)) (ht0 : w.cell? t = some old) (hf0 : w.frozen? t = false) :
    Calls Tryd.prog 40 #[.iface 59 (.pointer (some ⟨ab, 0, none⟩)), .iface 121 (.pointer (some t))] w fun ev w' => ev = .returned (.bool true) ∧ ∃ w1, Below w.heap.size w w1 ∧ w' = w1.setCell t (.int .i64 n) := by
  unfold errT at hg
  have h6 := @run_callFunc_extern Tryd.prog 58 _ (fun args => ReflectliteValue.unpack (args.getD 0 (.tuple #[]))) Tryd.func58 (by kernel_rfl) (by kernel_rfl) (by kernel_rfl) (by kernel_rfl)
  have h7 := @run_callFunc_extern Tryd.prog 59 _ (ReflectliteValue.methodAny (ReflectliteValue.valueError "reflectlite.Value.Type" 0) (fun t _ _ _ => ReflectliteType.toType t)) Tryd.func59 (by kernel_rfl) (by kernel_rfl) (by kernel_rfl) (by kernel_rfl)
  have h8 := @run_callFunc_extern Tryd.prog 60 _ (ReflectliteValue.method (ReflectliteValue.valueError "reflectlite.Value.IsNil" 0) ReflectliteValue.isNil) Tryd.func60 (by kernel_rfl) (by kernel_rfl) (by kernel_rfl) (by kernel_rfl)
  have hK := @run_callFunc_extern Tryd.prog 82 _ (ReflectliteType.abiMethod fun t => do pure (.int .u8 (← Rtype.kind t))) Tryd.func82 (by kernel_rfl) (by kernel_rfl) (by kernel_rfl) (by kernel_rfl)
  have hE := @run_callFunc_extern Tryd.prog 94 _ (ReflectliteType.method ReflectliteType.elem) Tryd.func94 (by kernel_rfl) (by kernel_rfl) (by kernel_rfl) (by kernel_rfl)
  have hI := @run_callFunc_extern Tryd.prog 95 _ (ReflectliteType.relation "Implements" ReflectliteType.implements_) Tryd.func95 (by kernel_rfl) (by kernel_rfl) (by kernel_rfl) (by kernel_rfl)
  have hO := @run_callFunc_extern Tryd.prog 65 _ ReflectliteType.typeOf Tryd.func65 (by kernel_rfl) (by kernel_rfl) (by kernel_rfl) (by kernel_rfl)
  have hA := @run_callFunc_extern Tryd.prog 92 _ (ReflectliteType.relation "AssignableTo" ReflectliteType.assignableTo) Tryd.func92 (by kernel_rfl) (by kernel_rfl) (by kernel_rfl) (by kernel_rfl)
  have hV := @run_callFunc_extern Tryd.prog 66 _ (ReflectliteValue.method (ReflectliteValue.valueError "reflectlite.Value.Elem" 0) ReflectliteValue.elem) Tryd.func66 (by kernel_rfl) (by kernel_rfl) (by kernel_rfl) (by kernel_rfl)
  have hS := @run_callFunc_extern Tryd.prog 67 _ ReflectliteValue.set Tryd.func67 (by kernel_rfl) (by kernel_rfl) (by kernel_rfl) (by kernel_rfl)
  have tO := typeOfE
  have tA := typeOfA
  have aA := assignA
  have mU := methodUnwrap
  have nA := noAs
  have hU := hasUn
  have nU := nilAheadUn
  have aE := assignE
  have vE := valueOfE
  have f6 := valueOfP
  have f7 := typeP
  have kP := kindP
  have kE := kindE
  have eP := elemP
  have iE := implementsE
  have mK := methodKind
  have mE := methodElem
  have mI := methodImplements
  have mA := methodAssign
  have hgl : 1 < w.heap.size := cell_lt hg
  have htl : t.block < w.heap.size := cell_lt ht0
  have ha3 := cell_al (cell_al (cell_al hab (.cells #[.pointer (some t)] 121)) (.cells #[.pointer (some ⟨2, 121, none⟩), .pointer (some ⟨w.heap.size, 0, none⟩), .int .u64 150] 141)) (.cells #[.pointer (some ⟨2, 121, none⟩), .pointer (some ⟨w.heap.size, 0, none⟩), .int .u64 150] 141)
  have n8 := isNilP ⟨w.heap.size, 0, none⟩ t ((w.alloc (.cells #[.pointer (some t)] 121)).alloc (.cells #[.pointer (some ⟨2, 121, none⟩), .pointer (some ⟨w.heap.size, 0, none⟩), .int .u64 150] 141)) (by simp)
  have hg2 := cell_al (cell_al hg (.cells #[.pointer (some t)] 121)) (.cells #[.pointer (some ⟨2, 121, none⟩), .pointer (some ⟨w.heap.size, 0, none⟩), .int .u64 150] 141)
  have el := elemVP ⟨w.heap.size, 0, none⟩ t (((w.alloc (.cells #[.pointer (some t)] 121)).alloc (.cells #[.pointer (some ⟨2, 121, none⟩), .pointer (some ⟨w.heap.size, 0, none⟩), .int .u64 150] 141)).alloc (.cells #[.pointer (some ⟨2, 121, none⟩), .pointer (some ⟨w.heap.size, 0, none⟩), .int .u64 150] 141)) (cell_al (cell_al (hcell (hnew _ _) 0) _) _)
  have st := setE t ⟨w.heap.size + 1 + 1 + 1, 0, none⟩ n old ((((w.alloc (.cells #[.pointer (some t)] 121)).alloc (.cells #[.pointer (some ⟨2, 121, none⟩), .pointer (some ⟨w.heap.size, 0, none⟩), .int .u64 150] 141)).alloc (.cells #[.pointer (some ⟨2, 121, none⟩), .pointer (some ⟨w.heap.size, 0, none⟩), .int .u64 150] 141)).alloc (.cells #[.int .i64 n] 33))
    (by rw [World.cell?_alloc_at _ _ _ _ (by simp)]; rfl)
    (cell_al (cell_al (cell_al (cell_al ht0 _) _) _) _)
    (by rw [World.frozen?_alloc_old _ _ t (by simp; omega), World.frozen?_alloc_old _ _ t (by simp; omega), World.frozen?_alloc_old _ _ t (by simp; omega), World.frozen?_alloc_old _ _ t (Nat.ne_of_lt htl)]; exact hf0)
  go_enter Tryd.func40, Tryd.ntmps40
  go_wp2
  refine wp_loop_rounds 2 ?_
  rw [rounds_succ]
  go_wp2
  rw [rounds_succ]
  go_wp2
  go_ret
  exact ⟨rfl, _, ((((Below.refl _ _).alloc (Nat.le_refl _) _).alloc (by simp) _).alloc (by simp; omega) _).alloc (by simp; omega) _, rfl⟩
end Go.Proofs.YtkafldkhmkdafaaDoor

namespace Go.Proofs.YtkafldkhmkdafaaDoor
open Go.RowKit

theorem neqNil0 (w : World) : (binOp BinOp.neq 30 .nilIface .nilIface).run Tryd.prog w = .ok (.bool false) w := by kernel_rfl
theorem eqlNil0 (w : World) : (binOp BinOp.eql 30 .nilIface .nilIface).run Tryd.prog w = .ok (.bool true) w := by kernel_rfl

/-- The errors' type, where it lies. -/
def ErrT (w : World) : Prop := w.cell? ⟨1, 0, none⟩ = some errT
theorem ErrT.keep {w w' : World} (h : ErrT w) (hb : Below w.heap.size w w') : ErrT w' := cellk hb h (cell_lt h)

set_option maxRecDepth 100000 in
set_option maxHeartbeats 4000000 in
theorem tell_any {w : World} {v : Value} {n p : Int} (h : ErrAt w v n p) (hT : ErrT w) :
    Calls Tryd.prog 22 #[v] w fun e w' => e = .returned (.int .i64 n) ∧ Below w.heap.size w w' := by
  have HT := hide hT
  have hT2 := hide (cell_al hT (.cells #[.int .i64 0] 33))
  rcases h with ⟨rfl, rfl, rfl⟩ | ⟨rfl, rfl⟩ | ⟨b, rfl, h1, h2⟩
  · have q := eqlNil0
    clear hT
    go_enter Tryd.func22, Tryd.ntmps22
    go_wp2_with fail
    go_ret
    exact ⟨rfl, Below.refl _ _⟩
  · clear hT
    go_enter Tryd.func22, Tryd.ntmps22
    go_wp2_with fail
    refine (as_hit n ⟨w.heap.size, 0, none⟩ (.int .i64 0) _ (unhide hT2) (hcell (hnew _ _) 0) (hfroz (hnew _ _) 0)).mono ?_
    rintro e w2 ⟨rfl, w1, hb1, rfl⟩
    have hs1 : w.heap.size < w1.heap.size := by have := hb1.size; simp at this; omega
    obtain ⟨cs, hcs⟩ : ∃ t fr, w1.heap[w.heap.size]? = some (.cells #[.int .i64 0] t fr) := ⟨_, _, (hb1.block w.heap.size (by simp)).trans (hnew _ _)⟩
    obtain ⟨fr, hcs⟩ := hcs
    have k0 : (w1.setCell ⟨w.heap.size, 0, none⟩ (.int .i64 n)).cell? ⟨w.heap.size, 0, none⟩ = some (.int .i64 n) := (hcell (hset hcs 0 _) 0).trans rfl
    have HB : Hid (Below w.heap.size w (w1.setCell ⟨w.heap.size, 0, none⟩ (.int .i64 n))) := (((Below.refl _ _).alloc (Nat.le_refl _) _).trans (hb1.mono (by simp))).setCell (p := ⟨w.heap.size, 0, none⟩) (Nat.le_refl _) _
    clear hb1 hcs
    go_wp2_with fail
    go_ret
    exact ⟨rfl, unhide HB⟩
  · clear hT
    have ha := hide (cell_al h1 (.cells #[.int .i64 0] 33))
    go_enter Tryd.func22, Tryd.ntmps22
    go_wp2_with fail
    refine (as_at n b ⟨w.heap.size, 0, none⟩ (.int .i64 0) _ (unhide hT2) (unhide ha) (hcell (hnew _ _) 0) (hfroz (hnew _ _) 0)).mono ?_
    rintro e w2 ⟨rfl, w1, hb1, rfl⟩
    obtain ⟨cs, fr, hcs⟩ : ∃ t fr, w1.heap[w.heap.size]? = some (.cells #[.int .i64 0] t fr) := ⟨_, _, (hb1.block w.heap.size (by simp)).trans (hnew _ _)⟩
    have k0 : (w1.setCell ⟨w.heap.size, 0, none⟩ (.int .i64 n)).cell? ⟨w.heap.size, 0, none⟩ = some (.int .i64 n) := (hcell (hset hcs 0 _) 0).trans rfl
    have HB : Hid (Below w.heap.size w (w1.setCell ⟨w.heap.size, 0, none⟩ (.int .i64 n))) := (((Below.refl _ _).alloc (Nat.le_refl _) _).trans (hb1.mono (by simp))).setCell (p := ⟨w.heap.size, 0, none⟩) (Nat.le_refl _) _
    clear hb1 hcs
    go_wp2_with fail
    go_ret
    exact ⟨rfl, unhide HB⟩
end Go.Proofs.YtkafldkhmkdafaaDoor

namespace Go.Proofs.YtkafldkhmkdafaaDoor
open Go.RowKit Go.Extern.Stop Go.Stop

theorem toAt (v : Value) (w : World) : (Go.Instr.typeAssert (.iface 59 v) 30 59 true).run Tryd.prog w = .ok (.tuple #[v, .bool true]) w := by kernel_rfl
theorem notAt (n : Int) (w : World) : (Go.Instr.typeAssert (.iface 33 (.int .i64 n)) 30 59 true).run Tryd.prog w = .ok (.tuple #[.pointer none, .bool false]) w := by kernel_rfl
theorem noUn (v : Value) (xT : TypeId) (w : World) : (Go.Instr.typeAssert (.iface 33 v) xT 95 true).run Tryd.prog w = .ok (.tuple #[.nilIface, .bool false]) w := run_typeAssert_lacksB Tryd.underlying95 (by kernel_rfl) (by kernel_rfl) v xT w

def PlacePost (w : World) (n p : Int) (e : Ending) (w' : World) : Prop := e = .returned (.tuple #[.int .i64 n, .int .i64 p]) ∧ Below w.heap.size w w'

set_option maxRecDepth 100000 in
set_option maxHeartbeats 4000000 in
theorem place_any {w : World} {v : Value} {n p : Int} (h : ErrAt w v n p) (hT : ErrT w) :
    Calls Tryd.prog 12 #[v] w fun e w' => PlacePost w n p e w' := by
  have H := hide h
  have HT := hide hT
  have q0 := neqNil0
  have q1 := toAt
  have q2 := notAt
  have q3 := noUn
  clear hT
  rcases h with ⟨rfl, rfl, rfl⟩ | ⟨rfl, rfl⟩ | ⟨b, rfl, h1, h2⟩
  · go_enter Tryd.func12, Tryd.ntmps12
    go_wp2_with fail
    refine (tell_any (unhide H) (unhide HT)).mono ?_
    rintro e w1 ⟨rfl, hb1⟩
    have HB := hide hb1
    clear hb1
    go_wp2_with fail
    refine wp_loop_rounds 1 ?_
    rw [rounds_succ]
    go_wp2_with fail
    go_ret2
    exact ⟨rfl, unhide HB⟩
  · go_enter Tryd.func12, Tryd.ntmps12
    go_wp2_with fail
    refine (tell_any (unhide H) (unhide HT)).mono ?_
    rintro e w1 ⟨rfl, hb1⟩
    have HB := hide hb1
    clear hb1
    go_wp2_with fail
    refine wp_loop_rounds 1 ?_
    rw [rounds_succ]
    go_wp2_with fail
    go_ret2
    exact ⟨rfl, unhide HB⟩
  · go_enter Tryd.func12, Tryd.ntmps12
    go_wp2_with fail
    refine (tell_any (unhide H) (unhide HT)).mono ?_
    rintro e w1 ⟨rfl, hb1⟩
    have k2 := cellk hb1 h2 (cell_lt h2)
    have HB := hide hb1
    clear hb1 h1 h2
    go_wp2_with fail
    refine wp_loop_rounds 1 ?_
    rw [rounds_succ]
    go_wp2_with fail
    go_quiet (fail)
    go_wp2_with fail
    go_ret2
    exact ⟨rfl, Bl.drewN (unhide HB) _⟩

set_option maxRecDepth 100000 in
set_option maxHeartbeats 4000000 in
theorem at_any {w : World} {v : Value} {n p : Int} (h : ErrAt w v n p) (hT : ErrT w) (n' p' : Int) :
    Calls Tryd.prog 6 #[v, .agg #[.int .i64 n', .int .i64 p']] w fun e w' => e = .returned (.bool ((n == n') && (p == p'))) ∧ Below w.heap.size w w' := by
  have H := hide h
  have HT := hide hT
  clear h hT
  have hba : ∀ o, Below w.heap.size w (w.alloc o) := fun o => (Below.refl _ _).alloc (Nat.le_refl _) o
  have HBA := hide hba
  clear hba
  cases h1 : (n == n') with
  | true =>
    go_enter Tryd.func6, Tryd.ntmps6
    go_wp2_with fail
    refine (place_any ((unhide H).keep (unhide HBA _)) ((unhide HT).keep (unhide HBA _))).mono ?_
    rintro e w1 ⟨rfl, hb1⟩
    have hk := (hb1.block w.heap.size (by simp)).trans (hnew w _)
    have k0 : w1.cell? ⟨w.heap.size, 0, none⟩ = some (.int .i64 n') := hcell hk 0
    have k1 : w1.cell? ⟨w.heap.size, 1, none⟩ = some (.int .i64 p') := hcell hk 1
    have HB := hide ((unhide HBA _).trans (hb1.mono (by simp)))
    clear hb1 hk
    go_wp2_with fail
    go_ret
    exact ⟨rb (by simp), unhide HB⟩
  | false =>
    go_enter Tryd.func6, Tryd.ntmps6
    go_wp2_with fail
    refine (place_any ((unhide H).keep (unhide HBA _)) ((unhide HT).keep (unhide HBA _))).mono ?_
    rintro e w1 ⟨rfl, hb1⟩
    have hk := (hb1.block w.heap.size (by simp)).trans (hnew w _)
    have k0 : w1.cell? ⟨w.heap.size, 0, none⟩ = some (.int .i64 n') := hcell hk 0
    have k1 : w1.cell? ⟨w.heap.size, 1, none⟩ = some (.int .i64 p') := hcell hk 1
    have HB := hide ((unhide HBA _).trans (hb1.mono (by simp)))
    clear hb1 hk
    go_wp2_with fail
    go_ret
    exact ⟨rb (by simp), unhide HB⟩

set_option maxRecDepth 100000 in
set_option maxHeartbeats 4000000 in
theorem lawBare_any {w : World} {v : Value} {n p : Int} (h : ErrAt w v n p) (hT : ErrT w) (n' : Int) :
    Calls Tryd.prog 10 #[v, .int .i64 n'] w fun e w' => e = .returned (.bool ((n == n') && (p == -1))) ∧ Below w.heap.size w w' := by
  have H := hide h
  have HT := hide hT
  clear h hT
  go_enter Tryd.func10, Tryd.ntmps10
  go_wp2_with fail
  refine (bare_any n' _).mono ?_
  rintro e w1 ⟨rfl, hb1⟩
  have HB1 := hide hb1
  clear hb1
  go_wp2_with fail
  refine (at_any ((unhide H).keep (unhide HB1)) ((unhide HT).keep (unhide HB1)) n' (-1)).mono ?_
  rintro e w2 ⟨rfl, hb2⟩
  have HB2 := hide ((unhide HB1).trans (hb2.mono (unhide HB1).size))
  clear hb2
  go_wp2_with fail
  go_ret
  exact ⟨rfl, unhide HB2⟩
end Go.Proofs.YtkafldkhmkdafaaDoor

namespace Go.Proofs.YtkafldkhmkdafaaDoor
open Go.RowKit

theorem img_all {w : World} {b : Nat} {m : PM} {vf vc vk : Value} (h : ImgAt w b m vf vc vk) (hin : InM m) (hfine : FineAt w) :
    Calls Tryd.prog 8 #[.pointer (some ⟨b, 0, none⟩)] w fun e w' => IPost m w e w' := by
  cases hl : limitOk m with
  | false => exact img_limit h hl
  | true => exact img_any h hl hin hfine

set_option maxRecDepth 100000 in
set_option maxHeartbeats 8000000 in
theorem codeChecks_any {w : World} {m : PM} {vf vc vk : Value} (h : ImgIs w vf vc vk m) (hin : InM m) (hfine : FineAt w) (hT : ErrT w) :
    Calls Tryd.prog 3 #[.agg #[vf, vc, vk]] w fun e w' => e = .returned (.bool true) ∧ Below w.heap.size w w' := by
  have H := hide h
  obtain ⟨RF, ⟨gf, capf, rfl, nf, rf⟩, hRF⟩ := h.funcs
  obtain ⟨gc, capc, rfl, nc, rc⟩ := h.consts
  obtain ⟨RK, ⟨gk, capk, rfl, nk, rk⟩, hRK⟩ := h.classes
  have HFN := hide hfine
  have HT := hide hT
  have HIN := hide hin
  clear h hfine hT rf hRF rc rk hRK hin
  obtain ⟨wm, hwm⟩ : ∃ wm, w.alloc (.cells #[.slice gf m.funcs.length capf, .slice gc m.consts.length capc, .slice gk m.classes.length capk] 26) = wm := ⟨_, rfl⟩
  have HB := hide (show Below w.heap.size w wm by rw [← hwm]; exact (Below.refl _ _).alloc (Nat.le_refl _) _)
  have hkm : wm.heap[w.heap.size]? = some (.cells #[.slice gf m.funcs.length capf, .slice gc m.consts.length capc, .slice gk m.classes.length capk] 26 (0, 0)) := by rw [← hwm]; exact hnew _ _
  have HM := hide (show ImgAt wm w.heap.size m (.slice gf m.funcs.length capf) (.slice gc m.consts.length capc) (.slice gk m.classes.length capk) from ⟨hcell hkm 0, hcell hkm 1, hcell hkm 2, (unhide H).keep (unhide HB)⟩)
  have m0 := (unhide HM).c0
  have m1 := (unhide HM).c1
  have m2 := (unhide HM).c2
  clear hkm
  go_enter Tryd.func3, Tryd.ntmps3
  go_wp2_with fail
  clear m0 m1 m2 hwm
  refine (few_law (unhide HM).img).mono ?_
  rintro e w1 ⟨hb1, c, rfl, hc⟩
  cases c with
  | false =>
    have HB1 := hide ((unhide HB).trans (hb1.mono (unhide HB).size))
    clear hb1 hc
    go_wp2_with fail
    go_ret
    exact ⟨rfl, unhide HB1⟩
  | true =>
    obtain ⟨hF, hK, hL⟩ := hc rfl
    have HB1 := hide ((unhide HB).trans (hb1.mono (unhide HB).size))
    have HM1 := hide ((unhide HM).keep hb1)
    clear hb1 hc
    go_wp2_with fail
    refine (check_any (unhide HM1) (unhide HIN)).mono ?_
    rintro e w2 ⟨hb2, v, n, p, rfl, he, hv⟩
    have HB2 := hide ((unhide HB1).trans (hb2.mono (unhide HB1).size))
    have HM2 := hide ((unhide HM1).keep hb2)
    have HE := hide he
    have HV := hide hv
    clear hb2 he hv
    go_wp2_with fail
    refine (image_any (unhide HM2) hK hF hL).mono ?_
    rintro e w3 ⟨hb3, ib, vf', vc', vk', rfl, hi⟩
    have HB3 := hide ((unhide HB2).trans (hb3.mono (unhide HB2).size))
    have HI := hide hi
    have HE3 := hide ((unhide HE).keep hb3)
    clear hb3 hi
    go_wp2_with fail
    refine (img_all (unhide HI) (unhide HIN) ((unhide HFN).keep (unhide HB3))).mono ?_
    rintro e w4 ⟨hb4, n', p', rfl, hv'⟩
    obtain ⟨rfl, rfl⟩ := (unhide HV).one hv'
    have HB4 := hide ((unhide HB3).trans (hb4.mono (unhide HB3).size))
    have HE4 := hide ((unhide HE3).keep hb4)
    clear hb4 hv'
    go_wp2_with fail
    refine (at_any (unhide HE4) ((unhide HT).keep (unhide HB4)) n p).mono ?_
    rintro e w5 ⟨rfl, hb5⟩
    have HB5 := hide ((unhide HB4).trans (hb5.mono (unhide HB4).size))
    have hnn : ((n == n) && (p == p)) = true := by simp
    rw [hnn]
    clear hb5
    go_wp2_with fail
    refine (check_nil _).mono ?_
    rintro e w6 ⟨rfl, rfl⟩
    go_wp2_with fail
    refine (lawBare_any (n := 7) (p := -1) (Or.inr (Or.inl ⟨rfl, rfl⟩)) ((unhide HT).keep (unhide HB5)) 7).mono ?_
    rintro e w7 ⟨rfl, hb7⟩
    have HB7 := hide ((unhide HB5).trans (hb7.mono (unhide HB5).size))
    clear hb7
    have h77 : (((7 : Int) == 7) && ((-1 : Int) == -1)) = true := by decide
    rw [h77]
    go_wp2_with fail
    go_ret
    exact ⟨rfl, unhide HB7⟩
end Go.Proofs.YtkafldkhmkdafaaDoor

namespace Go.Proofs.YtkafldkhmkdafaaDoor
open Go.RowKit

def DecPost (w : World) (l : List Int) (e : Ending) (w' : World) : Prop := Below w.heap.size w w' ∧
  ((∃ v n p, e = .returned (.tuple #[.pointer none, v]) ∧ ErrAt w' v n p ∧ v ≠ .nilIface ∧ (100000 < l.length → n = 4 ∧ p = -1) ∧ (n = 2 ∨ n = 3 ∨ n = 4)) ∨
   (l.length ≤ 100000 ∧ ∃ ib m vf vc vk, e = .returned (.tuple #[.pointer (some ⟨ib, 0, none⟩), .nilIface]) ∧ ImgAt w' ib m vf vc vk ∧ okM m ∧ Verdict m 0 (-1) ∧ l = encImg m))
theorem okM.inM {m : PM} (h : okM m) : InM m := fun f hf i hi => ((h.2.2 f hf).2.2.1 i hi).2.2.2
theorem Verdict.some {m : PM} {n p : Int} (h : Verdict m n p) (hn : n ≠ 0) : n = 2 ∨ n = 3 ∨ n = 4 := by
  rcases h with ⟨_, rfl, _⟩ | ⟨_, _, rfl, _⟩ | ⟨_, _, ⟨i, f, _, hf, _, _⟩ | ⟨rfl, _⟩⟩
  · omega
  · omega
  · rcases hf with ⟨_, rfl⟩ | ⟨_, _, rfl⟩ | ⟨_, _, _, rfl⟩ | ⟨_, _, _, rfl⟩ <;> omega
  · exact absurd rfl hn
theorem Verdict.zero {m : PM} {p : Int} (h : Verdict m 0 p) : p = -1 := by
  rcases h with ⟨_, e, _⟩ | ⟨_, _, e, _⟩ | ⟨_, _, ⟨i, f, _, hf, e, _⟩ | ⟨_, e, _⟩⟩
  · cases e
  · cases e
  · exact absurd rfl e
  · exact e

set_option maxRecDepth 100000 in
set_option maxHeartbeats 8000000 in
theorem decode_any {w : World} {g : Option Addr} {l : List Int} (h : BytesAt w g l) (cap : Nat) (hcap : l.length ≤ cap) (hl : l.length ≤ 110000) :
    Calls Tryd.prog 11 #[.slice g l.length cap] w fun e w' => DecPost w l e w' := by
  by_cases h5 : 100000 < l.length
  · have h5' : (100000 : Int) < (l.length : Int) := by omega
    have H5 := hide h5
    clear h
    go_enter Tryd.func11, Tryd.ntmps11
    go_wp2_with fail
    go_ret2
    exact ⟨Below.refl _ _, Or.inl ⟨_, 4, -1, rfl, Or.inr (Or.inl ⟨rfl, rfl⟩), (fun q => by cases q), fun _ => ⟨rfl, rfl⟩, by omega⟩⟩
  · have h5' : ¬ (100000 : Int) < (l.length : Int) := by omega
    obtain ⟨w0, hw0⟩ : ∃ w0, w.alloc (.cells #[.slice g l.length cap, .bool false] 89) = w0 := ⟨_, rfl⟩
    have hb0 : Below w.heap.size w w0 := by rw [← hw0]; exact (Below.refl _ _).alloc (Nat.le_refl _) _
    have hs0 : w.heap.size < w0.heap.size := by rw [← hw0]; simp
    have H0 : Hid (RdAt w0 w.heap.size l false) := ⟨⟨g, cap, 89, by rw [← hw0]; exact hnew _ _, hcap, fun i hi => by
      obtain ⟨b, o, e, hc⟩ := h.cell i hi
      exact ⟨b, o, e, cell_lt hc, cellk hb0 hc (cell_lt hc)⟩⟩, h.byte, hl⟩
    have HB0 := hide hb0
    have HS0 := hide hs0
    have HY := hide h
    clear h hb0 hs0
    go_enter Tryd.func11, Tryd.ntmps11
    go_wp2_with fail
    try rw [hw0]
    clear hw0
    refine (rimage_any (unhide H0)).mono ?_
    rintro e w1 ⟨ib, l1, b1, rfl, hr1, he1, hl1, hib, hw1⟩
    obtain ⟨g1, cap1, t1, hbk, _⟩ := hr1.blk
    have c0 : w1.cell? ⟨w.heap.size, 0, none⟩ = some (.slice g1 l1.length cap1) := hcell hbk 0
    have hd3 : l.length - l1.length ≤ cap := by omega
    have H1 := hide hr1
    have HE1 := hide he1
    have HW1 := hide hw1
    clear hr1 he1 hw1 hbk
    go_wp2_with fail
    refine (number_any (unhide H1)).mono ?_
    rintro e w2 ⟨n2, l2, b2, rfl, hn2, hr2, he2, hl2, hw2⟩
    have HE2 := hide he2
    have HX2 := hide ((unhide HE1).trans he2)
    have HBW : Hid (Below w.heap.size w w2) := (unhide HB0).trans ((unhide HX2).below (Nat.le_of_lt (unhide HS0)) (Nat.le_refl _))
    obtain ⟨g2, cap2, t2, hbk, _⟩ := hr2.blk
    have d0 : w2.cell? ⟨w.heap.size, 0, none⟩ = some (.slice g2 l2.length cap2) := hcell hbk 0
    have d1 : w2.cell? ⟨w.heap.size, 1, none⟩ = some (.bool b2) := hcell hbk 1
    have f1 := hfroz hbk 1
    have H2 := hide hr2
    have HW2 := hide hw2
    have hs := sum_any (((unhide HY).keep (unhide HBW)).take (l.length - l1.length)) cap (by simp; omega)
    have hlen : (l.take (l.length - l1.length)).length = l.length - l1.length := by simp
    rw [hlen] at hs
    have HS := hide hs
    clear hr2 he2 hw2 hbk hs hlen c0 hn2
    go_wp2_with fail
    refine (unhide HS).mono ?_
    rintro e w' ⟨rfl, rfl⟩
    have HBad := hide (show DecPost w l (.returned (.tuple #[.pointer none, .iface 33 (.int .i64 3)])) (w'.setCell ⟨w.heap.size, 1, none⟩ (.bool true)) from ⟨(unhide HBW).trans (((Below.refl w.heap.size w').setCell (p := ⟨w.heap.size, 1, none⟩) (Nat.le_refl _) _)), Or.inl ⟨_, 3, -1, rfl, Or.inr (Or.inl ⟨rfl, rfl⟩), (fun q => by cases q), fun q => absurd q h5, by omega⟩⟩)
    have HBad2 := hide (show DecPost w l (.returned (.tuple #[.pointer none, .iface 33 (.int .i64 3)])) w' from ⟨unhide HBW, Or.inl ⟨_, 3, -1, rfl, Or.inr (Or.inl ⟨rfl, rfl⟩), (fun q => by cases q), fun q => absurd q h5, by omega⟩⟩)
    by_cases hn : n2 = sumL (l.take (l.length - l1.length))
    · have hnb : (n2 != sumL (l.take (l.length - l1.length))) = false := by simpa using hn
      have HN := hide hn
      clear hn
      by_cases h2 : 0 < l2.length
      · have h2' : (0 : Int) < (l2.length : Int) := by omega
        go_wp2_with fail
        go_ret2
        exact unhide HBad
      · have h2' : ¬ (0 : Int) < (l2.length : Int) := by omega
        have HL2 := hide (List.length_eq_zero_iff.1 (show l2.length = 0 by omega))
        cases b2 with
        | true =>
          go_wp2_with fail
          go_ret2
          exact unhide HBad2
        | false =>
          obtain ⟨q1, e2⟩ := (unhide HW2) rfl
          obtain ⟨_, m, vf, vc, vk, hm, hok, e1⟩ := (unhide HW1) q1
          have HI := hide (hm _ (unhide HE2))
          have HOK := hide hok
          have HEQ : Hid (l = encImg m) := by
            have h0 := unhide HL2
            have e3 : l.length - l1.length = (encM m).length := by rw [e1]; simp
            have e4 : l.take (l.length - l1.length) = encM m := by rw [e3, e1]; simp
            have e5 := unhide HN
            rw [e4] at e5
            rw [h0, List.append_nil] at e2
            show l = encImg m
            rw [e1, e2, e5]
            rfl
          clear q1 e2 e1 hm hok
          go_wp2_with fail
          refine (check_anyZ (unhide HI) (unhide HOK).inM).mono ?_
          rintro e w3 ⟨hb3, v, n, p, rfl, he, hv, hz⟩
          have HB3 := hide ((unhide HBW).trans (hb3.mono (unhide HBW).size))
          have HI3 := hide ((unhide HI).keep hb3)
          have HE := hide he
          have HV := hide hv
          have HZ := hide hz
          clear hb3 hv hz
          rcases he with ⟨rfl, rfl, rfl⟩ | ⟨rfl, rfl⟩ | ⟨b, rfl, _, _⟩
          · have q0 := neqNil0
            go_wp2_with fail
            go_ret2
            exact ⟨unhide HB3, Or.inr ⟨by omega, ib, m, vf, vc, vk, rfl, unhide HI3, unhide HOK, unhide HV, unhide HEQ⟩⟩
          · have hn0 : n ≠ 0 := fun q => by have := (unhide HZ) q; cases this
            have q0 := neqNil0
            go_wp2_with fail
            go_ret2
            exact ⟨unhide HB3, Or.inl ⟨_, n, -1, rfl, unhide HE, (fun q => by cases q), fun q => absurd q h5, (unhide HV).some hn0⟩⟩
          · have hn0 : n ≠ 0 := fun q => by have := (unhide HZ) q; cases this
            have q0 := neqNil0
            go_wp2_with fail
            go_ret2
            exact ⟨unhide HB3, Or.inl ⟨_, n, p, rfl, unhide HE, (fun q => by cases q), fun q => absurd q h5, (unhide HV).some hn0⟩⟩
    · have hnb : (n2 != sumL (l.take (l.length - l1.length))) = true := by simpa using hn
      clear hn
      go_wp2_with fail
      go_ret2
      exact unhide HBad
end Go.Proofs.YtkafldkhmkdafaaDoor

namespace Go.Proofs.YtkafldkhmkdafaaDoor
open Go.RowKit

set_option maxRecDepth 100000 in
set_option maxHeartbeats 8000000 in
/-- More than 100,000 bytes. -/
theorem decodes_great {w : World} {g : Option Addr} {l : List Int} (h : BytesAt w g l) (cap : Nat) (hcap : l.length ≤ cap) (hg : 100000 < l.length) (hl : l.length ≤ 110000) (hT : ErrT w) :
    Calls Tryd.prog 4 #[.slice g l.length cap] w fun e w' => e = .returned (.bool true) ∧ Below w.heap.size w w' := by
  have H := hide h
  have HT := hide hT
  have h1 : (6000 : Int) < (l.length : Int) := by omega
  have h2 : ¬ (l.length : Int) ≤ 100000 := by omega
  have h3 : ¬ (110000 : Int) < (l.length : Int) := by omega
  have h4 : (100000 : Int) < (l.length : Int) := by omega
  clear h hT
  go_enter Tryd.func4, Tryd.ntmps4
  go_wp2_with fail
  refine (decode_any (unhide H) cap hcap hl).mono ?_
  rintro e w1 ⟨hb1, ⟨v, n, p, rfl, he, hv, hn, _⟩ | ⟨hq, _⟩⟩
  · obtain ⟨rfl, rfl⟩ := hn hg
    have HB1 := hide hb1
    have HE := hide he
    clear hb1 hn hv
    rcases he with ⟨rfl, q, _⟩ | ⟨rfl, _⟩ | ⟨ab, rfl, _, _⟩
    · cases q
    · go_wp2_with fail
      refine (lawBare_any (unhide HE) ((unhide HT).keep (unhide HB1)) 4).mono ?_
      rintro e w2 ⟨rfl, hb2⟩
      have HB2 := hide ((unhide HB1).trans (hb2.mono (unhide HB1).size))
      have h44 : (((4 : Int) == 4) && ((-1 : Int) == -1)) = true := by decide
      rw [h44]
      clear hb2
      go_wp2_with fail
      go_ret
      exact ⟨rfl, unhide HB2⟩
    · go_wp2_with fail
      refine (lawBare_any (unhide HE) ((unhide HT).keep (unhide HB1)) 4).mono ?_
      rintro e w2 ⟨rfl, hb2⟩
      have HB2 := hide ((unhide HB1).trans (hb2.mono (unhide HB1).size))
      have h44 : (((4 : Int) == 4) && ((-1 : Int) == -1)) = true := by decide
      rw [h44]
      clear hb2
      go_wp2_with fail
      go_ret
      exact ⟨rfl, unhide HB2⟩
  · omega

set_option maxHeartbeats 2000000 in
/-- What the law leaves out. -/
theorem decodes_skip (w : World) (g : Option Addr) (n cap : Nat) (h : 6000 < n ∧ n ≤ 100000 ∨ 110000 < n) :
    Calls Tryd.prog 4 #[.slice g n cap] w fun e w' => e = .returned (.bool true) ∧ w' = w := by
  have h1 : (6000 : Int) < (n : Int) := by omega
  by_cases h2 : n ≤ 100000
  · have h2' : (n : Int) ≤ 100000 := by omega
    clear h
    go_enter Tryd.func4, Tryd.ntmps4
    go_wp2_with fail
    go_ret
    exact ⟨rfl, rfl⟩
  · have h2' : ¬ (n : Int) ≤ 100000 := by omega
    have h3 : (110000 : Int) < (n : Int) := by omega
    clear h
    go_enter Tryd.func4, Tryd.ntmps4
    go_wp2_with fail
    go_ret
    exact ⟨rfl, rfl⟩
end Go.Proofs.YtkafldkhmkdafaaDoor
