/- A part. -/
import Derived.Test.YtndgajlidckcdaaGreatDoorM08
import Derived.LaidEql
import Derived.Stop.Asserts
import Derived.RowKitTokens
open Go.Proofs.Tryz
namespace Go.Proofs.YtndgajlidckcdaaGreatDoor
open Go.RowKit
set_option linter.unusedVariables false
set_option linter.unusedSimpArgs false
set_option maxRecDepth 100000
set_option maxHeartbeats 8000000
section
open Go.RowKit Go.Extern.Stop Go.Stop Go.Extern
theorem agm {w:World} {a:Addr} {v:Value} (h:w.cell? a=some v):a.block<w.heap.size:=World.block_lt_of_cell? w _ h
theorem cellk {B:Nat} {w w':World} (hb:Below B w w') {a:Addr} {v:Value} (h:w.cell? a=some v) (hl:a.block<B):w'.cell? a=some v:=(hb.cell hl).trans h
theorem ac2 {w:World} {a:Addr} {v:Value} (h:w.cell? a=some v):∀o,(w.alloc o).cell? a=some v:=fun o=>by
 rw[World.cell?_alloc_lt _ _ a (agm h)];exact h
def ErrAt (w:World) (v:Value) (e p:Int):Prop :=
 (v=.nilIface∧e=0∧p=-1)∨(v=.iface 23 (.int .i64 e)∧p=-1) ∨
 (∃b,v=.iface 122 (.pointer (some ⟨b,0,none⟩))∧w.cell? ⟨b,0,none⟩=some (.int .i64 e)∧w.cell? ⟨b,1,none⟩=some (.int .i64 p))
theorem ErrAt.keep {w w':World} {v:Value} {e p:Int} (h:ErrAt w v e p) (hb:Below w.heap.size w w'):ErrAt w' v e p:=by
 rcases h with h | h | ⟨b,h1,h2,h3⟩
 ·exact Or.inl h
 ·exact Or.inr (Or.inl h)
 ·exact Or.inr (Or.inr ⟨b,h1,cellk hb h2 (agm h2),cellk hb h3 (agm h3)⟩)
theorem ate (t:Addr) (w:World):(ReflectliteValue.unpack (.iface 93 (.pointer (some t)))).run prog w
  = .ok (.agg #[.pointer (some ⟨16,93,none⟩),.pointer (some ⟨w.heap.size,0,none⟩),.int .u64 150]) (w.alloc (.cells #[.pointer (some t)] 93)):=by kernel_rfl
theorem typeP (a : Addr) (w : World) : (ReflectliteValue.methodAny (ReflectliteValue.valueError "reflectlite.Value.Type" 0) (fun t _ _ _ => ReflectliteType.toType t) #[.agg #[.pointer (some ⟨16, 93, none⟩), .pointer (some a), .int .u64 150]]).run prog w
  = .ok (.iface 190 (.agg #[.pointer (some ⟨16,93,none⟩)])) w:=by kernel_rfl
theorem kindP (w:World):((ReflectliteType.abiMethod fun t=>Functor.map (fun a:Nat=>Value.int IntKind.u8 (a:Int)) (Rtype.kind t)) #[.pointer (some ⟨16,93,none⟩)]).run prog w=.ok (.int .u8 22) w:=by kernel_rfl
theorem kindE (w:World):((ReflectliteType.abiMethod fun t=>Functor.map (fun a:Nat=>Value.int IntKind.u8 (a:Int)) (Rtype.kind t)) #[.pointer (some ⟨16,23,none⟩)]).run prog w=.ok (.int .u8 2) w:=by kernel_rfl
theorem az7 (a:Addr) (w:World):(ReflectliteValue.parts (.agg #[.pointer (some ⟨16,93,none⟩),.pointer (some a),.int .u64 150])).run prog w=.ok (some (93,a,150)) w:=by kernel_rfl
theorem az8 (a p:Addr) (W:World) (ha:W.cell? a=some (.pointer (some p))) :
  (ReflectliteValue.method (ReflectliteValue.valueError "reflectlite.Value.IsNil" 0) ReflectliteValue.isNil #[.agg #[.pointer (some ⟨16, 93, none⟩), .pointer (some a), .int .u64 150]]).run prog W = .ok (.bool false) W := by
 refine(congrArg (fun s:Sem Value=>s.run prog W) (show ReflectliteValue.method _ _ _=(ReflectliteValue.parts (.agg #[.pointer (some ⟨16,93,none⟩),.pointer (some a),.int .u64 150]) >>= _) from rfl)).trans ?_
 simp only[Sem.run_bind,az7,Result.andThen]
 simp[ReflectliteValue.isNil,loadVar,isAgg,underlying,underlying93,ha,Result.andThen]
theorem elemP (w:World):(ReflectliteType.method ReflectliteType.elem #[.agg #[.pointer (some ⟨16,93,none⟩)]]).run prog w=.ok (.iface 190 (.agg #[.pointer (some ⟨16,23,none⟩)])) w:=by kernel_rfl
theorem al1 (w : World) : (ReflectliteType.relation "Implements" ReflectliteType.implements_ #[.agg #[.pointer (some ⟨16, 23, none⟩)], .iface 190 (.agg #[.pointer (some ⟨16, 29, none⟩)])]).run prog w = .ok (.bool true) w := by kernel_rfl
theorem avu (v:Value) (w:World):(ReflectliteType.typeOf #[.iface 23 v]).run prog w=.ok (.iface 190 (.agg #[.pointer (some ⟨16,23,none⟩)])) w:=by kernel_rfl
theorem typeOfA (v:Value) (w:World):(ReflectliteType.typeOf #[.iface 122 v]).run prog w=.ok (.iface 190 (.agg #[.pointer (some ⟨16,122,none⟩)])) w:=by kernel_rfl
theorem avv (w : World) : (ReflectliteType.relation "AssignableTo" ReflectliteType.assignableTo #[.agg #[.pointer (some ⟨16, 23, none⟩)], .iface 190 (.agg #[.pointer (some ⟨16, 23, none⟩)])]).run prog w = .ok (.bool true) w := by kernel_rfl
theorem assignA (w : World) : (ReflectliteType.relation "AssignableTo" ReflectliteType.assignableTo #[.agg #[.pointer (some ⟨16, 122, none⟩)], .iface 190 (.agg #[.pointer (some ⟨16, 23, none⟩)])]).run prog w = .ok (.bool false) w := by kernel_rfl
theorem atf (n:Int) (w:World):(ReflectliteValue.unpack (.iface 23 (.int .i64 n))).run prog w
  = .ok (.agg #[.pointer (some ⟨16,23,none⟩),.pointer (some ⟨w.heap.size,0,none⟩),.int .u64 130]) (w.alloc (.cells #[.int .i64 n] 23)):=by kernel_rfl
theorem elemOfP (w:World):(Rtype.elem? 93).run prog w=.ok (some 23) w:=by kernel_rfl
theorem mkE (p:Addr) (w:World):(ReflectliteValue.mk 23 p ReflectliteValue.flagAddr).run prog w=.ok (.agg #[.pointer (some ⟨16,23,none⟩),.pointer (some p),.int .u64 386]) w:=by kernel_rfl
theorem az9 (a p:Addr) (W:World) (ha:W.cell? a=some (.pointer (some p))) :
  (ReflectliteValue.method (ReflectliteValue.valueError "reflectlite.Value.Elem" 0) ReflectliteValue.elem #[.agg #[.pointer (some ⟨16, 93, none⟩), .pointer (some a), .int .u64 150]]).run prog W
   = .ok (.agg #[.pointer (some ⟨16,23,none⟩),.pointer (some p),.int .u64 386]) W:=by
 refine(congrArg (fun s:Sem Value=>s.run prog W) (show ReflectliteValue.method _ _ _=(ReflectliteValue.parts (.agg #[.pointer (some ⟨16,93,none⟩),.pointer (some a),.int .u64 150]) >>= _) from rfl)).trans ?_
 simp only[Sem.run_bind,az7,Result.andThen]
 simp[ReflectliteValue.elem,loadVar,isAgg,underlying,underlying93,ha,Result.andThen,elemOfP,mkE]
theorem partsEa (a:Addr) (w:World):(ReflectliteValue.parts (.agg #[.pointer (some ⟨16,23,none⟩),.pointer (some a),.int .u64 386])).run prog w=.ok (some (23,a,386)) w:=by kernel_rfl
theorem partsE (a:Addr) (w:World):(ReflectliteValue.parts (.agg #[.pointer (some ⟨16,23,none⟩),.pointer (some a),.int .u64 130])).run prog w=.ok (some (23,a,130)) w:=by kernel_rfl
theorem directE (w:World):(Rtype.directlyAssignable 23 23).run prog w=.ok true w:=by kernel_rfl
theorem setE (ta b:Addr) (n:Int) (old:Value) (W:World) (hb:W.cell? b=some (.int .i64 n)) (ht:W.cell? ta=some old) (hf:W.frozen? ta=false) :
  (ReflectliteValue.set #[.agg #[.pointer (some ⟨16,23,none⟩),.pointer (some ta),.int .u64 386],.agg #[.pointer (some ⟨16,23,none⟩),.pointer (some b),.int .u64 130]]).run prog W
   = .ok (.tuple #[]) (W.setCell ta (.int .i64 n)):=by
 refine(congrArg (fun s:Sem Value=>s.run prog W) (show ReflectliteValue.set _=(ReflectliteValue.parts (.agg #[.pointer (some ⟨16,23,none⟩),.pointer (some ta),.int .u64 386]) >>= fun p=>ReflectliteValue.parts (.agg #[.pointer (some ⟨16,23,none⟩),.pointer (some b),.int .u64 130]) >>= _) from rfl)).trans ?_
 simp only[Sem.run_bind,partsEa,partsE,Result.andThen]
 simp[ReflectliteValue.flagAddr,loadVar,isAgg,underlying,underlying23,hb,Result.andThen,directE,storeVar,Value.cells,storeCells,Addr.add]
 rw[run_store prog W ta _ _ (by rfl)]
 simp[ht,hf]
end
section
open Go.RowKit Go.Extern.Stop Go.Stop Go.Extern
def errT:Value:=.iface 190 (.agg #[.pointer (some ⟨16,29,none⟩)])
theorem an3 (h : Value) (w : World) : (Go.method 402 190 (.agg #[h]) "Kind").run prog w = .ok (282, h) w := by kernel_rfl
theorem an4 (h : Value) (w : World) : (Go.method 402 190 (.agg #[h]) "Elem").run prog w = .ok (295, .agg #[h]) w := by kernel_rfl
theorem aip (h : Value) (w : World) : (Go.method 402 190 (.agg #[h]) "Implements").run prog w = .ok (296, .agg #[h]) w := by kernel_rfl
theorem ak0 (h : Value) (w : World) : (Go.method 402 190 (.agg #[h]) "AssignableTo").run prog w = .ok (293, .agg #[h]) w := by kernel_rfl
theorem atg (p : Option Addr) (w : World) : (Go.method 402 122 (.pointer p) "Unwrap").run prog w = .ok (287, .pointer p) w := by kernel_rfl
theorem as_hit (n:Int) (t:Addr) (old:Value) (w:World) (hg:w.cell? ⟨2,0,none⟩=some errT) (ht0:w.cell? t=some old) (hf0:w.frozen? t=false) :
  Calls prog 48 #[.iface 23 (.int .i64 n),.iface 93 (.pointer (some t))] w fun ev w'=>ev=.returned (.bool true)∧∃w1,Below w.heap.size w w1∧w'=w1.setCell t (.int .i64 n):=by
 unfold errT at hg
 have h6:=@run_callFunc_extern prog 88 _ (fun args=>ReflectliteValue.unpack (args.getD 0 (.tuple #[]))) func88 (by kernel_rfl) (by kernel_rfl) (by kernel_rfl) (by kernel_rfl)
 have h7 := @run_callFunc_extern prog 89 _ (ReflectliteValue.methodAny (ReflectliteValue.valueError "reflectlite.Value.Type" 0) (fun t _ _ _ => ReflectliteType.toType t)) func89 (by kernel_rfl) (by kernel_rfl) (by kernel_rfl) (by kernel_rfl)
 have h8 := @run_callFunc_extern prog 90 _ (ReflectliteValue.method (ReflectliteValue.valueError "reflectlite.Value.IsNil" 0) ReflectliteValue.isNil) func90 (by kernel_rfl) (by kernel_rfl) (by kernel_rfl) (by kernel_rfl)
 have hK:=@run_callFunc_extern prog 282 _ (ReflectliteType.abiMethod fun t=>do pure (.int .u8 (←Rtype.kind t))) func282 (by kernel_rfl) (by kernel_rfl) (by kernel_rfl) (by kernel_rfl)
 have hE:=@run_callFunc_extern prog 295 _ (ReflectliteType.method ReflectliteType.elem) func295 (by kernel_rfl) (by kernel_rfl) (by kernel_rfl) (by kernel_rfl)
 have hI := @run_callFunc_extern prog 296 _ (ReflectliteType.relation "Implements" ReflectliteType.implements_) func296 (by kernel_rfl) (by kernel_rfl) (by kernel_rfl) (by kernel_rfl)
 have hO:=@run_callFunc_extern prog 142 _ ReflectliteType.typeOf func142 (by kernel_rfl) (by kernel_rfl) (by kernel_rfl) (by kernel_rfl)
 have hA := @run_callFunc_extern prog 293 _ (ReflectliteType.relation "AssignableTo" ReflectliteType.assignableTo) func293 (by kernel_rfl) (by kernel_rfl) (by kernel_rfl) (by kernel_rfl)
 have hV := @run_callFunc_extern prog 143 _ (ReflectliteValue.method (ReflectliteValue.valueError "reflectlite.Value.Elem" 0) ReflectliteValue.elem) func143 (by kernel_rfl) (by kernel_rfl) (by kernel_rfl) (by kernel_rfl)
 have hS:=@run_callFunc_extern prog 144 _ ReflectliteValue.set func144 (by kernel_rfl) (by kernel_rfl) (by kernel_rfl) (by kernel_rfl)
 have tO:=avu
 have aE:=avv
 have vE:=atf
 have f6:=ate
 have f7:=typeP
 have kP:=kindP
 have kE:=kindE
 have eP:=elemP
 have iE:=al1
 have mK:=an3
 have mE:=an4
 have mI:=aip
 have mA:=ak0
 have hgl:2<w.heap.size:=agm hg
 have htl:t.block<w.heap.size:=agm ht0
 have n8:=az8 ⟨w.heap.size,0,none⟩ t ((w.alloc (.cells #[.pointer (some t)] 93)).alloc (.cells #[.pointer (some ⟨16,93,none⟩),.pointer (some ⟨w.heap.size,0,none⟩),.int .u64 150] 149)) (by simp)
 have hg2:=ac2 (ac2 hg (.cells #[.pointer (some t)] 93)) (.cells #[.pointer (some ⟨16,93,none⟩),.pointer (some ⟨w.heap.size,0,none⟩),.int .u64 150] 149)
 have el:=az9 ⟨w.heap.size,0,none⟩ t (((w.alloc (.cells #[.pointer (some t)] 93)).alloc (.cells #[.pointer (some ⟨16,93,none⟩),.pointer (some ⟨w.heap.size,0,none⟩),.int .u64 150] 149)).alloc (.cells #[.pointer (some ⟨16,93,none⟩),.pointer (some ⟨w.heap.size,0,none⟩),.int .u64 150] 149)) (ac2 (ac2 (zd (aaq _ _) 0) _) _)
 have st:=setE t ⟨w.heap.size+1+1+1,0,none⟩ n old ((((w.alloc (.cells #[.pointer (some t)] 93)).alloc (.cells #[.pointer (some ⟨16,93,none⟩),.pointer (some ⟨w.heap.size,0,none⟩),.int .u64 150] 149)).alloc (.cells #[.pointer (some ⟨16,93,none⟩),.pointer (some ⟨w.heap.size,0,none⟩),.int .u64 150] 149)).alloc (.cells #[.int .i64 n] 23))
  (by rw[World.cell?_alloc_at _ _ _ _ (by simp)];rfl)
  (ac2 (ac2 (ac2 (ac2 ht0 _) _) _) _)
  (by rw[World.frozen?_alloc_old _ _ t (by simp;omega),World.frozen?_alloc_old _ _ t (by simp;omega),World.frozen?_alloc_old _ _ t (by simp;omega),World.frozen?_alloc_old _ _ t (Nat.ne_of_lt htl)];exact hf0)
 go_enter func48,ntmps48
 go_wp2
 refine wp_loop_rounds 1 ?_
 rw[rounds_succ]
 go_wp2
 go_ret
 exact⟨rfl,_,((((Below.refl _ _).alloc (Nat.le_refl _) _).alloc (by simp) _).alloc (by simp;omega) _).alloc (by simp;omega) _,rfl⟩
end
section
open Go.RowKit Go.Extern.Stop Go.Stop Go.Extern
theorem noAs (v:Value) (xT:TypeId) (w:World):(Go.Instr.typeAssert (.iface 122 v) xT 195 true).run prog w=.ok (.tuple #[.nilIface,.bool false]) w:=run_typeAssert_lacksB underlying195 (by kernel_rfl) (by kernel_rfl) v xT w
theorem hasUn (v:Value) (xT:TypeId) (w:World):(Go.Instr.typeAssert (.iface 122 v) xT 132 true).run prog w=.ok (.tuple #[.iface 122 v,.bool true]) w:=run_typeAssert_hasB underlying132 (by kernel_rfl) v xT w
theorem axh (a : Addr) (w : World) : (nilAhead 402 122 (.pointer (some a)) "Unwrap").run prog w = .ok (some false) w := by kernel_rfl
theorem as_at (n:Int) (ab:Nat) (t:Addr) (old:Value) (w:World) (hg:w.cell? ⟨2,0,none⟩=some errT) (hab:w.cell? ⟨ab,0,none⟩=some (.int .i64 n)) (ht0:w.cell? t=some old) (hf0:w.frozen? t=false) :
  Calls prog 48 #[.iface 122 (.pointer (some ⟨ab,0,none⟩)),.iface 93 (.pointer (some t))] w fun ev w'=>ev=.returned (.bool true)∧∃w1,Below w.heap.size w w1∧w'=w1.setCell t (.int .i64 n):=by
 unfold errT at hg
 have h6:=@run_callFunc_extern prog 88 _ (fun args=>ReflectliteValue.unpack (args.getD 0 (.tuple #[]))) func88 (by kernel_rfl) (by kernel_rfl) (by kernel_rfl) (by kernel_rfl)
 have h7 := @run_callFunc_extern prog 89 _ (ReflectliteValue.methodAny (ReflectliteValue.valueError "reflectlite.Value.Type" 0) (fun t _ _ _ => ReflectliteType.toType t)) func89 (by kernel_rfl) (by kernel_rfl) (by kernel_rfl) (by kernel_rfl)
 have h8 := @run_callFunc_extern prog 90 _ (ReflectliteValue.method (ReflectliteValue.valueError "reflectlite.Value.IsNil" 0) ReflectliteValue.isNil) func90 (by kernel_rfl) (by kernel_rfl) (by kernel_rfl) (by kernel_rfl)
 have hK:=@run_callFunc_extern prog 282 _ (ReflectliteType.abiMethod fun t=>do pure (.int .u8 (←Rtype.kind t))) func282 (by kernel_rfl) (by kernel_rfl) (by kernel_rfl) (by kernel_rfl)
 have hE:=@run_callFunc_extern prog 295 _ (ReflectliteType.method ReflectliteType.elem) func295 (by kernel_rfl) (by kernel_rfl) (by kernel_rfl) (by kernel_rfl)
 have hI := @run_callFunc_extern prog 296 _ (ReflectliteType.relation "Implements" ReflectliteType.implements_) func296 (by kernel_rfl) (by kernel_rfl) (by kernel_rfl) (by kernel_rfl)
 have hO:=@run_callFunc_extern prog 142 _ ReflectliteType.typeOf func142 (by kernel_rfl) (by kernel_rfl) (by kernel_rfl) (by kernel_rfl)
 have hA := @run_callFunc_extern prog 293 _ (ReflectliteType.relation "AssignableTo" ReflectliteType.assignableTo) func293 (by kernel_rfl) (by kernel_rfl) (by kernel_rfl) (by kernel_rfl)
 have hV := @run_callFunc_extern prog 143 _ (ReflectliteValue.method (ReflectliteValue.valueError "reflectlite.Value.Elem" 0) ReflectliteValue.elem) func143 (by kernel_rfl) (by kernel_rfl) (by kernel_rfl) (by kernel_rfl)
 have hS:=@run_callFunc_extern prog 144 _ ReflectliteValue.set func144 (by kernel_rfl) (by kernel_rfl) (by kernel_rfl) (by kernel_rfl)
 have tO:=avu
 have tA:=typeOfA
 have aA:=assignA
 have mU:=atg
 have nA:=noAs
 have hU:=hasUn
 have nU:=axh
 have aE:=avv
 have vE:=atf
 have f6:=ate
 have f7:=typeP
 have kP:=kindP
 have kE:=kindE
 have eP:=elemP
 have iE:=al1
 have mK:=an3
 have mE:=an4
 have mI:=aip
 have mA:=ak0
 have hgl:2<w.heap.size:=agm hg
 have htl:t.block<w.heap.size:=agm ht0
 have ha3:=ac2 (ac2 (ac2 hab (.cells #[.pointer (some t)] 93)) (.cells #[.pointer (some ⟨16,93,none⟩),.pointer (some ⟨w.heap.size,0,none⟩),.int .u64 150] 149)) (.cells #[.pointer (some ⟨16,93,none⟩),.pointer (some ⟨w.heap.size,0,none⟩),.int .u64 150] 149)
 have n8:=az8 ⟨w.heap.size,0,none⟩ t ((w.alloc (.cells #[.pointer (some t)] 93)).alloc (.cells #[.pointer (some ⟨16,93,none⟩),.pointer (some ⟨w.heap.size,0,none⟩),.int .u64 150] 149)) (by simp)
 have hg2:=ac2 (ac2 hg (.cells #[.pointer (some t)] 93)) (.cells #[.pointer (some ⟨16,93,none⟩),.pointer (some ⟨w.heap.size,0,none⟩),.int .u64 150] 149)
 have el:=az9 ⟨w.heap.size,0,none⟩ t (((w.alloc (.cells #[.pointer (some t)] 93)).alloc (.cells #[.pointer (some ⟨16,93,none⟩),.pointer (some ⟨w.heap.size,0,none⟩),.int .u64 150] 149)).alloc (.cells #[.pointer (some ⟨16,93,none⟩),.pointer (some ⟨w.heap.size,0,none⟩),.int .u64 150] 149)) (ac2 (ac2 (zd (aaq _ _) 0) _) _)
 have st:=setE t ⟨w.heap.size+1+1+1,0,none⟩ n old ((((w.alloc (.cells #[.pointer (some t)] 93)).alloc (.cells #[.pointer (some ⟨16,93,none⟩),.pointer (some ⟨w.heap.size,0,none⟩),.int .u64 150] 149)).alloc (.cells #[.pointer (some ⟨16,93,none⟩),.pointer (some ⟨w.heap.size,0,none⟩),.int .u64 150] 149)).alloc (.cells #[.int .i64 n] 23))
  (by rw[World.cell?_alloc_at _ _ _ _ (by simp)];rfl)
  (ac2 (ac2 (ac2 (ac2 ht0 _) _) _) _)
  (by rw[World.frozen?_alloc_old _ _ t (by simp;omega),World.frozen?_alloc_old _ _ t (by simp;omega),World.frozen?_alloc_old _ _ t (by simp;omega),World.frozen?_alloc_old _ _ t (Nat.ne_of_lt htl)];exact hf0)
 go_enter func48,ntmps48
 go_wp2
 refine wp_loop_rounds 2 ?_
 rw[rounds_succ]
 go_wp2
 rw[rounds_succ]
 go_wp2
 go_ret
 exact⟨rfl,_,((((Below.refl _ _).alloc (Nat.le_refl _) _).alloc (by simp) _).alloc (by simp;omega) _).alloc (by simp;omega) _,rfl⟩
end
theorem neqNil0 (w:World):(binOp BinOp.neq 29 .nilIface .nilIface).run prog w=.ok (.bool false) w:=by kernel_rfl
theorem eqlNil0 (w:World):(binOp BinOp.eql 29 .nilIface .nilIface).run prog w=.ok (.bool true) w:=by kernel_rfl
def ErrT (w:World):Prop:=w.cell? ⟨2,0,none⟩=some errT
theorem ErrT.keep {w w':World} (h:ErrT w) (hb:Below w.heap.size w w'):ErrT w':=cellk hb h (agm h)
theorem amp {w:World} {v:Value} {n p:Int} (h:ErrAt w v n p) (hT:ErrT w) :
  Calls prog 17 #[v] w fun e w'=>e=.returned (.int .i64 n)∧Below w.heap.size w w':=by
 have HT:=zb hT
 have hT2:=zb (ac2 hT (.cells #[.int .i64 0] 23))
 rcases h with ⟨rfl,rfl,rfl⟩ | ⟨rfl,rfl⟩ | ⟨b,rfl,h1,h2⟩
 ·have q:=eqlNil0
  clear hT
  go_enter func17,ntmps17
  go_wp2_with fail
  go_ret
  exact⟨rfl,Below.refl _ _⟩
 ·clear hT
  go_enter func17,ntmps17
  go_wp2_with fail
  refine(as_hit n ⟨w.heap.size,0,none⟩ (.int .i64 0) _ (za hT2) (zd (aaq _ _) 0) (zp (aaq _ _) 0)).mono ?_
  rintro e w2 ⟨rfl,w1,hb1,rfl⟩
  have hs1:w.heap.size<w1.heap.size:=by have:=hb1.size;simp at this;omega
  obtain⟨cs,hcs⟩:∃t fr,w1.heap[w.heap.size]?=some (.cells #[.int .i64 0] t fr):=⟨_,_,(hb1.block w.heap.size (by simp)).trans (aaq _ _)⟩
  obtain⟨fr,hcs⟩:=hcs
  have k0:(w1.setCell ⟨w.heap.size,0,none⟩ (.int .i64 n)).cell? ⟨w.heap.size,0,none⟩=some (.int .i64 n):=(zd (hset hcs (i:=0) _) 0).trans rfl
  have HB:Hid (Below w.heap.size w (w1.setCell ⟨w.heap.size,0,none⟩ (.int .i64 n))):=(((Below.refl _ _).alloc (Nat.le_refl _) _).trans (hb1.mono (by simp))).setCell (p:=⟨w.heap.size,0,none⟩) (Nat.le_refl _) _
  clear hb1 hcs
  go_wp2_with fail
  go_ret
  exact⟨rfl,za HB⟩
 ·clear hT
  have ha:=zb (ac2 h1 (.cells #[.int .i64 0] 23))
  go_enter func17,ntmps17
  go_wp2_with fail
  refine(as_at n b ⟨w.heap.size,0,none⟩ (.int .i64 0) _ (za hT2) (za ha) (zd (aaq _ _) 0) (zp (aaq _ _) 0)).mono ?_
  rintro e w2 ⟨rfl,w1,hb1,rfl⟩
  obtain⟨cs,fr,hcs⟩:∃t fr,w1.heap[w.heap.size]?=some (.cells #[.int .i64 0] t fr):=⟨_,_,(hb1.block w.heap.size (by simp)).trans (aaq _ _)⟩
  have k0:(w1.setCell ⟨w.heap.size,0,none⟩ (.int .i64 n)).cell? ⟨w.heap.size,0,none⟩=some (.int .i64 n):=(zd (hset hcs (i:=0) _) 0).trans rfl
  have HB:Hid (Below w.heap.size w (w1.setCell ⟨w.heap.size,0,none⟩ (.int .i64 n))):=(((Below.refl _ _).alloc (Nat.le_refl _) _).trans (hb1.mono (by simp))).setCell (p:=⟨w.heap.size,0,none⟩) (Nat.le_refl _) _
  clear hb1 hcs
  go_wp2_with fail
  go_ret
  exact⟨rfl,za HB⟩
section
open Go.RowKit Go.Extern.Stop Go.Stop
theorem Bl.drewN {B:Nat} {a w:World} (h:Below B a w) (n:Nat):Below B a (w.drewN n):=⟨h.os,h.tape,h.output,h.size,h.block⟩
theorem toAt (v:Value) (w:World):(Go.Instr.typeAssert (.iface 122 v) 29 122 true).run prog w=.ok (.tuple #[v,.bool true]) w:=by kernel_rfl
theorem notAt (n:Int) (w:World):(Go.Instr.typeAssert (.iface 23 (.int .i64 n)) 29 122 true).run prog w=.ok (.tuple #[.pointer none,.bool false]) w:=by kernel_rfl
theorem noUn (v:Value) (xT:TypeId) (w:World):(Go.Instr.typeAssert (.iface 23 v) xT 132 true).run prog w=.ok (.tuple #[.nilIface,.bool false]) w:=run_typeAssert_lacksB underlying132 (by kernel_rfl) (by kernel_rfl) v xT w
def baa (w:World) (n p:Int) (e:Ending) (w':World):Prop:=e=.returned (.tuple #[.int .i64 n,.int .i64 p])∧Below w.heap.size w w'
theorem ap5 {w:World} {v:Value} {n p:Int} (h:ErrAt w v n p) (hT:ErrT w) :
  Calls prog 45 #[v] w fun e w'=>baa w n p e w':=by
 have H:=zb h
 have HT:=zb hT
 have q0:=neqNil0
 have q1:=toAt
 have q2:=notAt
 have q3:=noUn
 clear hT
 rcases h with ⟨rfl,rfl,rfl⟩ | ⟨rfl,rfl⟩ | ⟨b,rfl,h1,h2⟩
 ·go_enter func45,ntmps45
  go_wp2_with fail
  refine(amp (za H) (za HT)).mono ?_
  rintro e w1 ⟨rfl,hb1⟩
  have HB:=zb hb1
  clear hb1
  go_wp2_with fail
  refine wp_loop_rounds 1 ?_
  rw[rounds_succ]
  go_wp2_with fail
  go_ret2
  exact⟨rfl,za HB⟩
 ·go_enter func45,ntmps45
  go_wp2_with fail
  refine(amp (za H) (za HT)).mono ?_
  rintro e w1 ⟨rfl,hb1⟩
  have HB:=zb hb1
  clear hb1
  go_wp2_with fail
  refine wp_loop_rounds 1 ?_
  rw[rounds_succ]
  go_wp2_with fail
  go_ret2
  exact⟨rfl,za HB⟩
 ·go_enter func45,ntmps45
  go_wp2_with fail
  refine(amp (za H) (za HT)).mono ?_
  rintro e w1 ⟨rfl,hb1⟩
  have k2:=cellk hb1 h2 (agm h2)
  have HB:=zb hb1
  clear hb1 h1 h2
  go_wp2_with fail
  refine wp_loop_rounds 1 ?_
  rw[rounds_succ]
  go_wp2_with fail
  go_quiet (fail)
  go_wp2_with fail
  go_ret2
  exact⟨rfl,Bl.drewN (za HB) _⟩
theorem at_any {w:World} {v:Value} {n p:Int} (h:ErrAt w v n p) (hT:ErrT w) (n' p':Int) :
  Calls prog 9 #[v,.agg #[.int .i64 n',.int .i64 p']] w fun e w'=>e=.returned (.bool ((n==n')&&(p==p')))∧Below w.heap.size w w':=by
 have H:=zb h
 have HT:=zb hT
 clear h hT
 have hba:∀o,Below w.heap.size w (w.alloc o):=fun o=>(Below.refl _ _).alloc (Nat.le_refl _) o
 have HBA:=zb hba
 clear hba
 cases h1:(n==n') with
 | true =>
  go_enter func9,ntmps9
  go_wp2_with fail
  refine(ap5 ((za H).keep (za HBA _)) ((za HT).keep (za HBA _))).mono ?_
  rintro e w1 ⟨rfl,hb1⟩
  have hk:=(hb1.block w.heap.size (by simp)).trans (aaq w _)
  have k0:w1.cell? ⟨w.heap.size,0,none⟩=some (.int .i64 n'):=zd hk 0
  have k1:w1.cell? ⟨w.heap.size,1,none⟩=some (.int .i64 p'):=zd hk 1
  have HB:=zb ((za HBA _).trans (hb1.mono (by simp)))
  clear hb1 hk
  go_wp2_with fail
  go_ret
  exact⟨rb (by simp),za HB⟩
 | false =>
  go_enter func9,ntmps9
  go_wp2_with fail
  refine(ap5 ((za H).keep (za HBA _)) ((za HT).keep (za HBA _))).mono ?_
  rintro e w1 ⟨rfl,hb1⟩
  have hk:=(hb1.block w.heap.size (by simp)).trans (aaq w _)
  have k0:w1.cell? ⟨w.heap.size,0,none⟩=some (.int .i64 n'):=zd hk 0
  have k1:w1.cell? ⟨w.heap.size,1,none⟩=some (.int .i64 p'):=zd hk 1
  have HB:=zb ((za HBA _).trans (hb1.mono (by simp)))
  clear hb1 hk
  go_wp2_with fail
  go_ret
  exact⟨rb (by simp),za HB⟩
end
end Go.Proofs.YtndgajlidckcdaaGreatDoor
