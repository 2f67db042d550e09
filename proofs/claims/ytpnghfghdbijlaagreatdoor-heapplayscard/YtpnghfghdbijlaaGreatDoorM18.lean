/- A part. -/
import Derived.Test.YtpnghfghdbijlaaGreatDoorM16
import Derived.Test.YtpnghfghdbijlaaGreatDoorM17
import Derived.LaidEql
import Derived.Stop.Asserts
import Derived.RowKitTokens
open Go.Proofs.Tryz
namespace Go.Proofs.YtpnghfghdbijlaaGreatDoor
open Go.RowKit
set_option linter.unusedVariables false
set_option linter.unusedSimpArgs false
set_option maxRecDepth 100000
set_option maxHeartbeats 40000000
def ErrAt (w:World) (v:Value) (e p:Int):Prop :=
 (v=.nilIface∧e=0∧p=-1)∨(v=.iface 29 (.int .i64 e)∧p=-1) ∨
 (∃b,v=.iface 100 (.pointer (some ⟨b,0,none⟩))∧w.cell? ⟨b,0,none⟩=some (.int .i64 e)∧w.cell? ⟨b,1,none⟩=some (.int .i64 p))
theorem ErrAt.keep {w w':World} {v:Value} {e p:Int} (h:ErrAt w v e p) (hb:Below w.heap.size w w'):ErrAt w' v e p:=by
 rcases h with h | h | ⟨b,h1,h2,h3⟩
 ·exact Or.inl h
 ·exact Or.inr (Or.inl h)
 ·exact Or.inr (Or.inr ⟨b,h1,zj hb h2 (ze h2),zj hb h3 (ze h3)⟩)
theorem aqa (n:Int) (w:World):Calls prog 11 #[.int .i64 n] w fun e w'=>e=.returned (.agg #[.int .i64 n,.int .i64 (-1)])∧Below w.heap.size w w':=by
 go_enter func11,ntmps11
 go_wp2_with fail
 exact bodyPost_ret (v:=.agg #[.int .i64 n,.int .i64 (-1)]) (by simp[results,Tryz.results11,go_sem]) rfl ⟨rfl,(Below.refl _ _).alloc (Nat.le_refl _) _⟩
section
open Go.RowKit Go.Extern.Stop Go.Stop Go.Extern
theorem ala (t:Addr) (w:World):(ReflectliteValue.unpack (.iface 117 (.pointer (some t)))).run prog w
  = .ok (.agg #[.pointer (some ⟨1,117,none⟩),.pointer (some ⟨w.heap.size,0,none⟩),.int .u64 150]) (w.alloc (.cells #[.pointer (some t)] 117)):=by kernel_rfl
theorem typeP (a : Addr) (w : World) : (ReflectliteValue.methodAny (ReflectliteValue.valueError "reflectlite.Value.Type" 0) (fun t _ _ _ => ReflectliteType.toType t) #[.agg #[.pointer (some ⟨1, 117, none⟩), .pointer (some a), .int .u64 150]]).run prog w
  = .ok (.iface 155 (.agg #[.pointer (some ⟨1,117,none⟩)])) w:=by kernel_rfl
theorem kindP (w:World):((ReflectliteType.abiMethod fun t=>Functor.map (fun a:Nat=>Value.int IntKind.u8 (a:Int)) (Rtype.kind t)) #[.pointer (some ⟨1,117,none⟩)]).run prog w=.ok (.int .u8 22) w:=by kernel_rfl
theorem kindE (w:World):((ReflectliteType.abiMethod fun t=>Functor.map (fun a:Nat=>Value.int IntKind.u8 (a:Int)) (Rtype.kind t)) #[.pointer (some ⟨1,29,none⟩)]).run prog w=.ok (.int .u8 2) w:=by kernel_rfl
theorem aon (a:Addr) (w:World):(ReflectliteValue.parts (.agg #[.pointer (some ⟨1,117,none⟩),.pointer (some a),.int .u64 150])).run prog w=.ok (some (117,a,150)) w:=by kernel_rfl
theorem aop (a p:Addr) (W:World) (ha:W.cell? a=some (.pointer (some p))) :
  (ReflectliteValue.method (ReflectliteValue.valueError "reflectlite.Value.IsNil" 0) ReflectliteValue.isNil #[.agg #[.pointer (some ⟨1, 117, none⟩), .pointer (some a), .int .u64 150]]).run prog W = .ok (.bool false) W := by
 refine(congrArg (fun s:Sem Value=>s.run prog W) (show ReflectliteValue.method _ _ _=(ReflectliteValue.parts (.agg #[.pointer (some ⟨1,117,none⟩),.pointer (some a),.int .u64 150]) >>= _) from rfl)).trans ?_
 simp only[Sem.run_bind,aon,Result.andThen]
 simp[ReflectliteValue.isNil,loadVar,isAgg,underlying,underlying117,ha,Result.andThen]
theorem elemP (w:World):(ReflectliteType.method ReflectliteType.elem #[.agg #[.pointer (some ⟨1,117,none⟩)]]).run prog w=.ok (.iface 155 (.agg #[.pointer (some ⟨1,29,none⟩)])) w:=by kernel_rfl
theorem aib (w : World) : (ReflectliteType.relation "Implements" ReflectliteType.implements_ #[.agg #[.pointer (some ⟨1, 29, none⟩)], .iface 155 (.agg #[.pointer (some ⟨1, 25, none⟩)])]).run prog w = .ok (.bool true) w := by kernel_rfl
theorem amk (v:Value) (w:World):(ReflectliteType.typeOf #[.iface 29 v]).run prog w=.ok (.iface 155 (.agg #[.pointer (some ⟨1,29,none⟩)])) w:=by kernel_rfl
theorem typeOfA (v:Value) (w:World):(ReflectliteType.typeOf #[.iface 100 v]).run prog w=.ok (.iface 155 (.agg #[.pointer (some ⟨1,100,none⟩)])) w:=by kernel_rfl
theorem aml (w : World) : (ReflectliteType.relation "AssignableTo" ReflectliteType.assignableTo #[.agg #[.pointer (some ⟨1, 29, none⟩)], .iface 155 (.agg #[.pointer (some ⟨1, 29, none⟩)])]).run prog w = .ok (.bool true) w := by kernel_rfl
theorem assignA (w : World) : (ReflectliteType.relation "AssignableTo" ReflectliteType.assignableTo #[.agg #[.pointer (some ⟨1, 100, none⟩)], .iface 155 (.agg #[.pointer (some ⟨1, 29, none⟩)])]).run prog w = .ok (.bool false) w := by kernel_rfl
theorem alb (n:Int) (w:World):(ReflectliteValue.unpack (.iface 29 (.int .i64 n))).run prog w
  = .ok (.agg #[.pointer (some ⟨1,29,none⟩),.pointer (some ⟨w.heap.size,0,none⟩),.int .u64 130]) (w.alloc (.cells #[.int .i64 n] 29)):=by kernel_rfl
theorem elemOfP (w:World):(Rtype.elem? 117).run prog w=.ok (some 29) w:=by kernel_rfl
theorem mkE (p:Addr) (w:World):(ReflectliteValue.mk 29 p ReflectliteValue.flagAddr).run prog w=.ok (.agg #[.pointer (some ⟨1,29,none⟩),.pointer (some p),.int .u64 386]) w:=by kernel_rfl
theorem aoq (a p:Addr) (W:World) (ha:W.cell? a=some (.pointer (some p))) :
  (ReflectliteValue.method (ReflectliteValue.valueError "reflectlite.Value.Elem" 0) ReflectliteValue.elem #[.agg #[.pointer (some ⟨1, 117, none⟩), .pointer (some a), .int .u64 150]]).run prog W
   = .ok (.agg #[.pointer (some ⟨1,29,none⟩),.pointer (some p),.int .u64 386]) W:=by
 refine(congrArg (fun s:Sem Value=>s.run prog W) (show ReflectliteValue.method _ _ _=(ReflectliteValue.parts (.agg #[.pointer (some ⟨1,117,none⟩),.pointer (some a),.int .u64 150]) >>= _) from rfl)).trans ?_
 simp only[Sem.run_bind,aon,Result.andThen]
 simp[ReflectliteValue.elem,loadVar,isAgg,underlying,underlying117,ha,Result.andThen,elemOfP,mkE]
theorem partsEa (a:Addr) (w:World):(ReflectliteValue.parts (.agg #[.pointer (some ⟨1,29,none⟩),.pointer (some a),.int .u64 386])).run prog w=.ok (some (29,a,386)) w:=by kernel_rfl
theorem partsE (a:Addr) (w:World):(ReflectliteValue.parts (.agg #[.pointer (some ⟨1,29,none⟩),.pointer (some a),.int .u64 130])).run prog w=.ok (some (29,a,130)) w:=by kernel_rfl
theorem directE (w:World):(Rtype.directlyAssignable 29 29).run prog w=.ok true w:=by kernel_rfl
theorem setE (ta b:Addr) (n:Int) (old:Value) (W:World) (hb:W.cell? b=some (.int .i64 n)) (ht:W.cell? ta=some old) (hf:W.frozen? ta=false) :
  (ReflectliteValue.set #[.agg #[.pointer (some ⟨1,29,none⟩),.pointer (some ta),.int .u64 386],.agg #[.pointer (some ⟨1,29,none⟩),.pointer (some b),.int .u64 130]]).run prog W
   = .ok (.tuple #[]) (W.setCell ta (.int .i64 n)):=by
 refine(congrArg (fun s:Sem Value=>s.run prog W) (show ReflectliteValue.set _=(ReflectliteValue.parts (.agg #[.pointer (some ⟨1,29,none⟩),.pointer (some ta),.int .u64 386]) >>= fun p=>ReflectliteValue.parts (.agg #[.pointer (some ⟨1,29,none⟩),.pointer (some b),.int .u64 130]) >>= _) from rfl)).trans ?_
 simp only[Sem.run_bind,partsEa,partsE,Result.andThen]
 simp[ReflectliteValue.flagAddr,loadVar,isAgg,underlying,underlying29,hb,Result.andThen,directE,storeVar,Value.cells,storeCells,Addr.add]
 rw[run_store prog W ta _ _ (by rfl)]
 simp[ht,hf]
end
section
open Go.RowKit Go.Extern.Stop Go.Stop Go.Extern
def errT:Value:=.iface 155 (.agg #[.pointer (some ⟨1,25,none⟩)])
theorem ai6 (h : Value) (w : World) : (Go.method 303 155 (.agg #[h]) "Kind").run prog w = .ok (106, h) w := by kernel_rfl
theorem ai7 (h : Value) (w : World) : (Go.method 303 155 (.agg #[h]) "Elem").run prog w = .ok (118, .agg #[h]) w := by kernel_rfl
theorem afr (h : Value) (w : World) : (Go.method 303 155 (.agg #[h]) "Implements").run prog w = .ok (119, .agg #[h]) w := by kernel_rfl
theorem aho (h : Value) (w : World) : (Go.method 303 155 (.agg #[h]) "AssignableTo").run prog w = .ok (116, .agg #[h]) w := by kernel_rfl
theorem alc (p : Option Addr) (w : World) : (Go.method 303 100 (.pointer p) "Unwrap").run prog w = .ok (111, .pointer p) w := by kernel_rfl
theorem as_hit (n:Int) (t:Addr) (old:Value) (w:World) (hg:w.cell? ⟨0,0,none⟩=some errT) (ht0:w.cell? t=some old) (hf0:w.frozen? t=false) :
  Calls prog 61 #[.iface 29 (.int .i64 n),.iface 117 (.pointer (some t))] w fun ev w'=>ev=.returned (.bool true)∧∃w1,Below w.heap.size w w1∧w'=w1.setCell t (.int .i64 n):=by
 unfold errT at hg
 have h6:=@run_callFunc_extern prog 67 _ (fun args=>ReflectliteValue.unpack (args.getD 0 (.tuple #[]))) func67 (by kernel_rfl) (by kernel_rfl) (by kernel_rfl) (by kernel_rfl)
 have h7 := @run_callFunc_extern prog 68 _ (ReflectliteValue.methodAny (ReflectliteValue.valueError "reflectlite.Value.Type" 0) (fun t _ _ _ => ReflectliteType.toType t)) func68 (by kernel_rfl) (by kernel_rfl) (by kernel_rfl) (by kernel_rfl)
 have h8 := @run_callFunc_extern prog 69 _ (ReflectliteValue.method (ReflectliteValue.valueError "reflectlite.Value.IsNil" 0) ReflectliteValue.isNil) func69 (by kernel_rfl) (by kernel_rfl) (by kernel_rfl) (by kernel_rfl)
 have hK:=@run_callFunc_extern prog 106 _ (ReflectliteType.abiMethod fun t=>do pure (.int .u8 (←Rtype.kind t))) func106 (by kernel_rfl) (by kernel_rfl) (by kernel_rfl) (by kernel_rfl)
 have hE:=@run_callFunc_extern prog 118 _ (ReflectliteType.method ReflectliteType.elem) func118 (by kernel_rfl) (by kernel_rfl) (by kernel_rfl) (by kernel_rfl)
 have hI := @run_callFunc_extern prog 119 _ (ReflectliteType.relation "Implements" ReflectliteType.implements_) func119 (by kernel_rfl) (by kernel_rfl) (by kernel_rfl) (by kernel_rfl)
 have hO:=@run_callFunc_extern prog 82 _ ReflectliteType.typeOf func82 (by kernel_rfl) (by kernel_rfl) (by kernel_rfl) (by kernel_rfl)
 have hA := @run_callFunc_extern prog 116 _ (ReflectliteType.relation "AssignableTo" ReflectliteType.assignableTo) func116 (by kernel_rfl) (by kernel_rfl) (by kernel_rfl) (by kernel_rfl)
 have hV := @run_callFunc_extern prog 83 _ (ReflectliteValue.method (ReflectliteValue.valueError "reflectlite.Value.Elem" 0) ReflectliteValue.elem) func83 (by kernel_rfl) (by kernel_rfl) (by kernel_rfl) (by kernel_rfl)
 have hS:=@run_callFunc_extern prog 84 _ ReflectliteValue.set func84 (by kernel_rfl) (by kernel_rfl) (by kernel_rfl) (by kernel_rfl)
 have tO:=amk
 have aE:=aml
 have vE:=alb
 have f6:=ala
 have f7:=typeP
 have kP:=kindP
 have kE:=kindE
 have eP:=elemP
 have iE:=aib
 have mK:=ai6
 have mE:=ai7
 have mI:=afr
 have mA:=aho
 have hgl:0<w.heap.size:=ze hg
 have htl:t.block<w.heap.size:=ze ht0
 have n8:=aop ⟨w.heap.size,0,none⟩ t ((w.alloc (.cells #[.pointer (some t)] 117)).alloc (.cells #[.pointer (some ⟨1,117,none⟩),.pointer (some ⟨w.heap.size,0,none⟩),.int .u64 150] 132)) (by simp)
 have hg2:=aac (aac hg (.cells #[.pointer (some t)] 117)) (.cells #[.pointer (some ⟨1,117,none⟩),.pointer (some ⟨w.heap.size,0,none⟩),.int .u64 150] 132)
 have el:=aoq ⟨w.heap.size,0,none⟩ t (((w.alloc (.cells #[.pointer (some t)] 117)).alloc (.cells #[.pointer (some ⟨1,117,none⟩),.pointer (some ⟨w.heap.size,0,none⟩),.int .u64 150] 132)).alloc (.cells #[.pointer (some ⟨1,117,none⟩),.pointer (some ⟨w.heap.size,0,none⟩),.int .u64 150] 132)) (aac (aac (zd (aan _ _) 0) _) _)
 have st:=setE t ⟨w.heap.size+1+1+1,0,none⟩ n old ((((w.alloc (.cells #[.pointer (some t)] 117)).alloc (.cells #[.pointer (some ⟨1,117,none⟩),.pointer (some ⟨w.heap.size,0,none⟩),.int .u64 150] 132)).alloc (.cells #[.pointer (some ⟨1,117,none⟩),.pointer (some ⟨w.heap.size,0,none⟩),.int .u64 150] 132)).alloc (.cells #[.int .i64 n] 29))
  (by rw[World.cell?_alloc_at _ _ _ _ (by simp)];rfl)
  (aac (aac (aac (aac ht0 _) _) _) _)
  (by rw[World.frozen?_alloc_old _ _ t (by simp;omega),World.frozen?_alloc_old _ _ t (by simp;omega),World.frozen?_alloc_old _ _ t (by simp;omega),World.frozen?_alloc_old _ _ t (Nat.ne_of_lt htl)];exact hf0)
 go_enter func61,ntmps61
 go_wp2
 refine wp_loop_rounds 1 ?_
 rw[rounds_succ]
 go_wp2
 go_ret
 exact⟨rfl,_,((((Below.refl _ _).alloc (Nat.le_refl _) _).alloc (by simp) _).alloc (by simp;omega) _).alloc (by simp;omega) _,rfl⟩
end
section
open Go.RowKit Go.Extern.Stop Go.Stop Go.Extern
theorem noAs (v:Value) (xT:TypeId) (w:World):(Go.Instr.typeAssert (.iface 100 v) xT 160 true).run prog w=.ok (.tuple #[.nilIface,.bool false]) w:=run_typeAssert_lacksB underlying160 (by kernel_rfl) (by kernel_rfl) v xT w
theorem hasUn (v:Value) (xT:TypeId) (w:World):(Go.Instr.typeAssert (.iface 100 v) xT 103 true).run prog w=.ok (.tuple #[.iface 100 v,.bool true]) w:=run_typeAssert_hasB underlying103 (by kernel_rfl) v xT w
theorem ane (a : Addr) (w : World) : (nilAhead 303 100 (.pointer (some a)) "Unwrap").run prog w = .ok (some false) w := by kernel_rfl
theorem as_at (n:Int) (ab:Nat) (t:Addr) (old:Value) (w:World) (hg:w.cell? ⟨0,0,none⟩=some errT) (hab:w.cell? ⟨ab,0,none⟩=some (.int .i64 n)) (ht0:w.cell? t=some old) (hf0:w.frozen? t=false) :
  Calls prog 61 #[.iface 100 (.pointer (some ⟨ab,0,none⟩)),.iface 117 (.pointer (some t))] w fun ev w'=>ev=.returned (.bool true)∧∃w1,Below w.heap.size w w1∧w'=w1.setCell t (.int .i64 n):=by
 unfold errT at hg
 have h6:=@run_callFunc_extern prog 67 _ (fun args=>ReflectliteValue.unpack (args.getD 0 (.tuple #[]))) func67 (by kernel_rfl) (by kernel_rfl) (by kernel_rfl) (by kernel_rfl)
 have h7 := @run_callFunc_extern prog 68 _ (ReflectliteValue.methodAny (ReflectliteValue.valueError "reflectlite.Value.Type" 0) (fun t _ _ _ => ReflectliteType.toType t)) func68 (by kernel_rfl) (by kernel_rfl) (by kernel_rfl) (by kernel_rfl)
 have h8 := @run_callFunc_extern prog 69 _ (ReflectliteValue.method (ReflectliteValue.valueError "reflectlite.Value.IsNil" 0) ReflectliteValue.isNil) func69 (by kernel_rfl) (by kernel_rfl) (by kernel_rfl) (by kernel_rfl)
 have hK:=@run_callFunc_extern prog 106 _ (ReflectliteType.abiMethod fun t=>do pure (.int .u8 (←Rtype.kind t))) func106 (by kernel_rfl) (by kernel_rfl) (by kernel_rfl) (by kernel_rfl)
 have hE:=@run_callFunc_extern prog 118 _ (ReflectliteType.method ReflectliteType.elem) func118 (by kernel_rfl) (by kernel_rfl) (by kernel_rfl) (by kernel_rfl)
 have hI := @run_callFunc_extern prog 119 _ (ReflectliteType.relation "Implements" ReflectliteType.implements_) func119 (by kernel_rfl) (by kernel_rfl) (by kernel_rfl) (by kernel_rfl)
 have hO:=@run_callFunc_extern prog 82 _ ReflectliteType.typeOf func82 (by kernel_rfl) (by kernel_rfl) (by kernel_rfl) (by kernel_rfl)
 have hA := @run_callFunc_extern prog 116 _ (ReflectliteType.relation "AssignableTo" ReflectliteType.assignableTo) func116 (by kernel_rfl) (by kernel_rfl) (by kernel_rfl) (by kernel_rfl)
 have hV := @run_callFunc_extern prog 83 _ (ReflectliteValue.method (ReflectliteValue.valueError "reflectlite.Value.Elem" 0) ReflectliteValue.elem) func83 (by kernel_rfl) (by kernel_rfl) (by kernel_rfl) (by kernel_rfl)
 have hS:=@run_callFunc_extern prog 84 _ ReflectliteValue.set func84 (by kernel_rfl) (by kernel_rfl) (by kernel_rfl) (by kernel_rfl)
 have tO:=amk
 have tA:=typeOfA
 have aA:=assignA
 have mU:=alc
 have nA:=noAs
 have hU:=hasUn
 have nU:=ane
 have aE:=aml
 have vE:=alb
 have f6:=ala
 have f7:=typeP
 have kP:=kindP
 have kE:=kindE
 have eP:=elemP
 have iE:=aib
 have mK:=ai6
 have mE:=ai7
 have mI:=afr
 have mA:=aho
 have hgl:0<w.heap.size:=ze hg
 have htl:t.block<w.heap.size:=ze ht0
 have ha3:=aac (aac (aac hab (.cells #[.pointer (some t)] 117)) (.cells #[.pointer (some ⟨1,117,none⟩),.pointer (some ⟨w.heap.size,0,none⟩),.int .u64 150] 132)) (.cells #[.pointer (some ⟨1,117,none⟩),.pointer (some ⟨w.heap.size,0,none⟩),.int .u64 150] 132)
 have n8:=aop ⟨w.heap.size,0,none⟩ t ((w.alloc (.cells #[.pointer (some t)] 117)).alloc (.cells #[.pointer (some ⟨1,117,none⟩),.pointer (some ⟨w.heap.size,0,none⟩),.int .u64 150] 132)) (by simp)
 have hg2:=aac (aac hg (.cells #[.pointer (some t)] 117)) (.cells #[.pointer (some ⟨1,117,none⟩),.pointer (some ⟨w.heap.size,0,none⟩),.int .u64 150] 132)
 have el:=aoq ⟨w.heap.size,0,none⟩ t (((w.alloc (.cells #[.pointer (some t)] 117)).alloc (.cells #[.pointer (some ⟨1,117,none⟩),.pointer (some ⟨w.heap.size,0,none⟩),.int .u64 150] 132)).alloc (.cells #[.pointer (some ⟨1,117,none⟩),.pointer (some ⟨w.heap.size,0,none⟩),.int .u64 150] 132)) (aac (aac (zd (aan _ _) 0) _) _)
 have st:=setE t ⟨w.heap.size+1+1+1,0,none⟩ n old ((((w.alloc (.cells #[.pointer (some t)] 117)).alloc (.cells #[.pointer (some ⟨1,117,none⟩),.pointer (some ⟨w.heap.size,0,none⟩),.int .u64 150] 132)).alloc (.cells #[.pointer (some ⟨1,117,none⟩),.pointer (some ⟨w.heap.size,0,none⟩),.int .u64 150] 132)).alloc (.cells #[.int .i64 n] 29))
  (by rw[World.cell?_alloc_at _ _ _ _ (by simp)];rfl)
  (aac (aac (aac (aac ht0 _) _) _) _)
  (by rw[World.frozen?_alloc_old _ _ t (by simp;omega),World.frozen?_alloc_old _ _ t (by simp;omega),World.frozen?_alloc_old _ _ t (by simp;omega),World.frozen?_alloc_old _ _ t (Nat.ne_of_lt htl)];exact hf0)
 go_enter func61,ntmps61
 go_wp2
 refine wp_loop_rounds 2 ?_
 rw[rounds_succ]
 go_wp2
 rw[rounds_succ]
 go_wp2
 go_ret
 exact⟨rfl,_,((((Below.refl _ _).alloc (Nat.le_refl _) _).alloc (by simp) _).alloc (by simp;omega) _).alloc (by simp;omega) _,rfl⟩
end
theorem neqNil0 (w:World):(binOp BinOp.neq 25 .nilIface .nilIface).run prog w=.ok (.bool false) w:=by kernel_rfl
theorem eqlNil0 (w:World):(binOp BinOp.eql 25 .nilIface .nilIface).run prog w=.ok (.bool true) w:=by kernel_rfl
def ErrT (w:World):Prop:=w.cell? ⟨0,0,none⟩=some errT
theorem ErrT.keep {w w':World} (h:ErrT w) (hb:Below w.heap.size w w'):ErrT w':=zj hb h (ze h)
theorem aim {w:World} {v:Value} {n p:Int} (h:ErrAt w v n p) (hT:ErrT w) :
  Calls prog 47 #[v] w fun e w'=>e=.returned (.int .i64 n)∧Below w.heap.size w w':=by
 have HT:=zc hT
 have hT2:=zc (aac hT (.cells #[.int .i64 0] 29))
 rcases h with ⟨rfl,rfl,rfl⟩ | ⟨rfl,rfl⟩ | ⟨b,rfl,h1,h2⟩
 ·have q:=eqlNil0
  clear hT
  go_enter func47,ntmps47
  go_wp2_with fail
  go_ret
  exact⟨rfl,Below.refl _ _⟩
 ·clear hT
  go_enter func47,ntmps47
  go_wp2_with fail
  refine(as_hit n ⟨w.heap.size,0,none⟩ (.int .i64 0) _ (za hT2) (zd (aan _ _) 0) (zt (aan _ _) 0)).mono ?_
  rintro e w2 ⟨rfl,w1,hb1,rfl⟩
  have hs1:w.heap.size<w1.heap.size:=by have:=hb1.size;simp at this;omega
  obtain⟨cs,hcs⟩:∃t fr,w1.heap[w.heap.size]?=some (.cells #[.int .i64 0] t fr):=⟨_,_,(hb1.block w.heap.size (by simp)).trans (aan _ _)⟩
  obtain⟨fr,hcs⟩:=hcs
  have k0:(w1.setCell ⟨w.heap.size,0,none⟩ (.int .i64 n)).cell? ⟨w.heap.size,0,none⟩=some (.int .i64 n):=(zd (aad hcs 0 _) 0).trans rfl
  have HB:Hid (Below w.heap.size w (w1.setCell ⟨w.heap.size,0,none⟩ (.int .i64 n))):=(((Below.refl _ _).alloc (Nat.le_refl _) _).trans (hb1.mono (by simp))).setCell (p:=⟨w.heap.size,0,none⟩) (Nat.le_refl _) _
  clear hb1 hcs
  go_wp2_with fail
  go_ret
  exact⟨rfl,za HB⟩
 ·clear hT
  have ha:=zc (aac h1 (.cells #[.int .i64 0] 29))
  go_enter func47,ntmps47
  go_wp2_with fail
  refine(as_at n b ⟨w.heap.size,0,none⟩ (.int .i64 0) _ (za hT2) (za ha) (zd (aan _ _) 0) (zt (aan _ _) 0)).mono ?_
  rintro e w2 ⟨rfl,w1,hb1,rfl⟩
  obtain⟨cs,fr,hcs⟩:∃t fr,w1.heap[w.heap.size]?=some (.cells #[.int .i64 0] t fr):=⟨_,_,(hb1.block w.heap.size (by simp)).trans (aan _ _)⟩
  have k0:(w1.setCell ⟨w.heap.size,0,none⟩ (.int .i64 n)).cell? ⟨w.heap.size,0,none⟩=some (.int .i64 n):=(zd (aad hcs 0 _) 0).trans rfl
  have HB:Hid (Below w.heap.size w (w1.setCell ⟨w.heap.size,0,none⟩ (.int .i64 n))):=(((Below.refl _ _).alloc (Nat.le_refl _) _).trans (hb1.mono (by simp))).setCell (p:=⟨w.heap.size,0,none⟩) (Nat.le_refl _) _
  clear hb1 hcs
  go_wp2_with fail
  go_ret
  exact⟨rfl,za HB⟩
section
open Go.RowKit Go.Extern.Stop Go.Stop
theorem toAt (v:Value) (w:World):(Go.Instr.typeAssert (.iface 100 v) 25 100 true).run prog w=.ok (.tuple #[v,.bool true]) w:=by kernel_rfl
theorem notAt (n:Int) (w:World):(Go.Instr.typeAssert (.iface 29 (.int .i64 n)) 25 100 true).run prog w=.ok (.tuple #[.pointer none,.bool false]) w:=by kernel_rfl
theorem noUn (v:Value) (xT:TypeId) (w:World):(Go.Instr.typeAssert (.iface 29 v) xT 103 true).run prog w=.ok (.tuple #[.nilIface,.bool false]) w:=run_typeAssert_lacksB underlying103 (by kernel_rfl) (by kernel_rfl) v xT w
def aor (w:World) (n p:Int) (e:Ending) (w':World):Prop:=e=.returned (.tuple #[.int .i64 n,.int .i64 p])∧Below w.heap.size w w'
theorem akg {w:World} {v:Value} {n p:Int} (h:ErrAt w v n p) (hT:ErrT w) :
  Calls prog 29 #[v] w fun e w'=>aor w n p e w':=by
 have H:=zc h
 have HT:=zc hT
 have q0:=neqNil0
 have q1:=toAt
 have q2:=notAt
 have q3:=noUn
 clear hT
 rcases h with ⟨rfl,rfl,rfl⟩ | ⟨rfl,rfl⟩ | ⟨b,rfl,h1,h2⟩
 ·go_enter func29,ntmps29
  go_wp2_with fail
  refine(aim (za H) (za HT)).mono ?_
  rintro e w1 ⟨rfl,hb1⟩
  have HB:=zc hb1
  clear hb1
  go_wp2_with fail
  refine wp_loop_rounds 1 ?_
  rw[rounds_succ]
  go_wp2_with fail
  go_ret2
  exact⟨rfl,za HB⟩
 ·go_enter func29,ntmps29
  go_wp2_with fail
  refine(aim (za H) (za HT)).mono ?_
  rintro e w1 ⟨rfl,hb1⟩
  have HB:=zc hb1
  clear hb1
  go_wp2_with fail
  refine wp_loop_rounds 1 ?_
  rw[rounds_succ]
  go_wp2_with fail
  go_ret2
  exact⟨rfl,za HB⟩
 ·go_enter func29,ntmps29
  go_wp2_with fail
  refine(aim (za H) (za HT)).mono ?_
  rintro e w1 ⟨rfl,hb1⟩
  have k2:=zj hb1 h2 (ze h2)
  have HB:=zc hb1
  clear hb1 h1 h2
  go_wp2_with fail
  refine wp_loop_rounds 1 ?_
  rw[rounds_succ]
  go_wp2_with fail
  go_quiet (fail)
  go_wp2_with fail
  go_ret2
  exact⟨rfl,Bl.drewN (za HB) _⟩
theorem at_any {w:World} {v:Value} {n p:Int} (h:ErrAt w v n p) (hT:ErrT w) (n' p':Int) :
  Calls prog 10 #[v,.agg #[.int .i64 n',.int .i64 p']] w fun e w'=>e=.returned (.bool ((n==n')&&(p==p')))∧Below w.heap.size w w':=by
 have H:=zc h
 have HT:=zc hT
 clear h hT
 have hba:∀o,Below w.heap.size w (w.alloc o):=fun o=>(Below.refl _ _).alloc (Nat.le_refl _) o
 have HBA:=zc hba
 clear hba
 cases h1:(n==n') with
 | true =>
  go_enter func10,ntmps10
  go_wp2_with fail
  refine(akg ((za H).keep (za HBA _)) ((za HT).keep (za HBA _))).mono ?_
  rintro e w1 ⟨rfl,hb1⟩
  have hk:=(hb1.block w.heap.size (by simp)).trans (aan w _)
  have k0:w1.cell? ⟨w.heap.size,0,none⟩=some (.int .i64 n'):=zd hk 0
  have k1:w1.cell? ⟨w.heap.size,1,none⟩=some (.int .i64 p'):=zd hk 1
  have HB:=zc ((za HBA _).trans (hb1.mono (by simp)))
  clear hb1 hk
  go_wp2_with fail
  go_ret
  exact⟨rb (by simp),za HB⟩
 | false =>
  go_enter func10,ntmps10
  go_wp2_with fail
  refine(akg ((za H).keep (za HBA _)) ((za HT).keep (za HBA _))).mono ?_
  rintro e w1 ⟨rfl,hb1⟩
  have hk:=(hb1.block w.heap.size (by simp)).trans (aan w _)
  have k0:w1.cell? ⟨w.heap.size,0,none⟩=some (.int .i64 n'):=zd hk 0
  have k1:w1.cell? ⟨w.heap.size,1,none⟩=some (.int .i64 p'):=zd hk 1
  have HB:=zc ((za HBA _).trans (hb1.mono (by simp)))
  clear hb1 hk
  go_wp2_with fail
  go_ret
  exact⟨rb (by simp),za HB⟩
theorem ab4 {w:World} {v:Value} {n p:Int} (h:ErrAt w v n p) (hT:ErrT w) (n':Int) :
  Calls prog 5 #[v,.int .i64 n'] w fun e w'=>e=.returned (.bool ((n==n')&&(p==-1)))∧Below w.heap.size w w':=by
 have H:=zc h
 have HT:=zc hT
 clear h hT
 go_enter func5,ntmps5
 go_wp2_with fail
 refine(aqa n' _).mono ?_
 rintro e w1 ⟨rfl,hb1⟩
 have HB1:=zc hb1
 clear hb1
 go_wp2_with fail
 refine(at_any ((za H).keep (za HB1)) ((za HT).keep (za HB1)) n' (-1)).mono ?_
 rintro e w2 ⟨rfl,hb2⟩
 have HB2:=zc ((za HB1).trans (hb2.mono (za HB1).size))
 clear hb2
 go_wp2_with fail
 go_ret
 exact⟨rfl,za HB2⟩
end
section
open Go.RowKit Go.Maps
theorem aaq {P:Program} {ops:Array Oper} {Q:Exit→Act→World→Prop} {o:Oper} {a:Act} {w:World} {K:Act→World→Prop} {E:Prop} (hw:Region.wanted o (yielded ops a.tmps)=true) {F:FuncId} {args:Array Value} (hrun:(execOp a.eval o).run P w=.ok (.enter F args) w)
  (hc:Calls P F args w fun
   | .returned v,w''=>K (a.put o.dst v) w''
   | .panicked chain,w''=>Q (.panic chain) a w''
   | .outgrown,_=>LetsOut Q):if Region.wanted o (yielded ops a.tmps)=true then Oper.wp P o a w K Q else E:=by
 rw[if_pos hw]
 unfold Oper.wp
 rw[hrun]
 exact hc
structure St5 where
 what:Int
 a:Int
 b:Int
 c:Int
 bits:Int
def stV (q:St5):Value:=.agg #[.int .i64 q.what,.int .i64 q.a,.int .i64 q.b,.int .i64 q.c,.int .u64 q.bits]
structure StOk (q:St5):Prop where
 a:I64 q.a
 b:I64 q.b
 c:I64 q.c
def AllocZ (B:Nat) (w:World) (m:ZM) (P:PHp) (D:DataW Unit) (kd tag:Int) (sz:Nat) (w':World):Prop :=
 ∃P' D' n' id vo vf,HpG B w' m.hp m.mb P' D' n' vo vf m.voo m.vof m.vn∧(P'.Y=P.Y++[⟨kd,tag,id,aay sz,false⟩]∧P'.O=P.O∧P'.fy=P.fy∧P'.fo=P.fo∧P'.noted=P.noted∧P'.ry=P.ry∧P'.ro=P.ro∧P'.minors=P.minors∧P'.majors=P.majors) ∧
  ((id=0∧kd=4∧P'.last=P.last∧D'=D)∨(id=P.last+1∧kd≠4∧P'.last=P.last+1∧D'=D.put (.int .i64 (P.last+1)) (.lit (.int .i64 (P.fy+2*P.Y.length)))))∧n'≤m.n+1 ∧
  (∀k,k<w.heap.size→OutH m k→w'.heap[k]?=w.heap[k]?)∧OwnNew w m.vyf vf∧w.heap.size≤w'.heap.size∧w'.os=w.os∧w'.tape=w.tape∧w'.output=w.output
theorem ald {B:Nat} {w:World} {m:ZM} {P:PHp} {D:DataW Unit} {T:List Th} {k:Nat} (h:HpG B w m.hp m.mb P D m.n m.vyo m.vyf m.voo m.vof m.vn) (hf:Few' k P T m.n) (hl0:0≤P.last) (hl1:P.last≤1000) {kd tag:Int} {sz:Nat} (hk:1≤kd∧kd≤4) (hsz:sz≤1000) (hroom:(P.Y.length+(zg P.Y).length:Int)+1+sz≤P.ry) :
  Calls prog 7 #[.pointer (some ⟨m.hp,0,none⟩),.int .i64 kd,.int .i64 tag,.int .i64 sz] w fun e w'=>e=.returned (.tuple #[.int .i64 (P.fy+2*P.Y.length),.nilIface])∧AllocZ B w m P D kd tag sz w':=by
 have h1:=hf.k60
 have h2:=hf.c
 have h3:=hf.f
 have h4:=hf.y
 have h5:=hf.o
 have h6:=hf.n
 have key:∀(kd:Int),kd≠4→∀(e:Ending) (w':World),(e=.returned (.tuple #[.int .i64 (P.fy+2*P.Y.length),.nilIface])∧ai5 kd B w m.hp m.mb P D m.n tag sz m.vyo m.vyf m.voo m.vof m.vn w')→e=.returned (.tuple #[.int .i64 (P.fy+2*P.Y.length),.nilIface])∧AllocZ B w m P D kd tag sz w':=by
  rintro kd h4 e w' ⟨rfl,vo,vf,q1,q2,q3,q4,q5,q6,q7,q8⟩
  exact⟨rfl,aom kd P tag sz,_,_,P.last+1,vo,vf,q1,⟨rfl,rfl,rfl,rfl,rfl,rfl,rfl,rfl,rfl⟩,Or.inr ⟨rfl,h4,rfl,rfl⟩,Nat.le_refl _,fun k hk ho=>q2 k hk ho.hp ho.mb ho.yo ho.yf,q4,q5,q6,q7,q8⟩
 have hc:kd=1∨kd=2∨kd=3∨kd=4:=by omega
 rcases hc with rfl | rfl | rfl | rfl
 ·exact(ap7 h hsz hroom (by omega) (by omega) (by omega) (by omega) (by omega) (by omega) hl0 (by omega)).mono (key 1 (by decide))
 ·exact(ap8 h hsz hroom (by omega) (by omega) (by omega) (by omega) (by omega) (by omega) hl0 (by omega)).mono (key 2 (by decide))
 ·exact(ap9 h hsz hroom (by omega) (by omega) (by omega) (by omega) (by omega) (by omega) hl0 (by omega)).mono (key 3 (by decide))
 ·refine(aol h hsz hroom (by omega) (by omega) (by omega) (by omega) (by omega)).mono ?_
  rintro e w' ⟨rfl,vo,vf,q1,q2,q3,q4,q5,q6,q7,q8⟩
  exact⟨rfl,aok P tag sz,_,_,0,vo,vf,q1,⟨rfl,rfl,rfl,rfl,rfl,rfl,rfl,rfl,rfl⟩,Or.inl ⟨rfl,rfl,rfl,rfl⟩,Nat.le_succ _,fun k hk ho=>q2 k hk ho.hp ho.yo ho.yf,q4,q5,q6,q7,q8⟩
end
section
open Go.RowKit Go.Maps
structure Pr (B:Nat) (w0 w:World) (a b a' b':Value) (ea eb:TypeId) (ka kb na nb:Nat) (xa xb:List Value):Prop where
 oa:w.ownsRow B ea ka a' na xa
 ob:w.ownsRow B eb kb b' nb xb
 na:OwnNew w0 a a'
 nb:OwnNew w0 b b'
 dj:∀g,a'.ownBlock=some g→b'.ownBlock≠some g
 fr:∀k,k<w0.heap.size→a.ownBlock≠some k→b.ownBlock≠some k→w.heap[k]?=w0.heap[k]?
 sz:w0.heap.size≤w.heap.size
 os:w.os=w0.os
 tp:w.tape=w0.tape
 out:w.output=w0.output
section
variable {B:Nat} {w0 w w':World} {a b a' b':Value} {ea eb:TypeId} {ka kb na nb:Nat} {xa xb:List Value}
theorem Pr.start (oa:w0.ownsRow B ea ka a na xa) (ob:w0.ownsRow B eb kb b nb xb) (dj:∀g,a.ownBlock=some g→b.ownBlock≠some g):Pr B w0 w0 a b a b ea eb ka kb na nb xa xb :=
 ⟨oa,ob,Or.inl rfl,Or.inl rfl,dj,fun _ _ _ _=>rfl,Nat.le_refl _,rfl,rfl,rfl⟩
theorem Pr.alloc (h:Pr B w0 w a b a' b' ea eb ka kb na nb xa xb) (o:Obj):Pr B w0 (w.alloc o) a b a' b' ea eb ka kb na nb xa xb:=by
 have hb:Below w.heap.size w (w.alloc o):=(Below.refl _ _).alloc (Nat.le_refl _) _
 exact⟨aa8 h.oa hb,aa8 h.ob hb,h.na,h.nb,h.dj,fun k hk h1 h2=>(hb.block k (Nat.lt_of_lt_of_le hk h.sz)).trans (h.fr k hk h1 h2),Nat.le_trans h.sz hb.size,hb.os.trans h.os,hb.tape.trans h.tp,hb.output.trans h.out⟩
theorem Pr.first (h:Pr B w0 w a b a b' ea eb ka kb na nb xa xb) {g cap n':Nat} {ys:List Value} (ho:w'.ownsRow B ea ka (.slice (some ⟨g,0,none⟩) n' cap) n' ys) (hg:w.grownBy w' a.ownBlock) (hat:a.ownBlock=some g∨g=w.heap.size):Pr B w0 w' a b (.slice (some ⟨g,0,none⟩) n' cap) b' ea eb ka kb n' nb ys xb:=by
 have hs:=h.sz
 refine⟨ho,zs h.ob fun j hj=>hg.block j (zp h.ob j hj).2.1 (fun e=>h.dj j e.symm hj),?_,h.nb,fun q hq hq'=>?_,fun k hk h1 h2=>(hg.block k (Nat.lt_of_lt_of_le hk h.sz) (fun e=>h1 e.symm)).trans (h.fr k hk h1 h2),Nat.le_trans h.sz hg.size,hg.os.trans h.os,hg.tape.trans h.tp,hg.output.trans h.out⟩
 ·rcases hat with q | q
  ·exact Or.inl q.symm
  ·refine Or.inr fun j hj=>?_
   have hj:some g=some j:=hj
   cases hj
   omega
 ·have hq:some g=some q:=hq
  cases hq
  rcases hat with e | e
  ·exact h.dj g e hq'
  ·have:=(zp h.ob g hq').2.1
   omega
theorem Pr.second (h:Pr B w0 w a b a' b ea eb ka kb na nb xa xb) {g cap n':Nat} {ys:List Value} (ho:w'.ownsRow B eb kb (.slice (some ⟨g,0,none⟩) n' cap) n' ys) (hg:w.grownBy w' b.ownBlock) (hat:b.ownBlock=some g∨g=w.heap.size):Pr B w0 w' a b a' (.slice (some ⟨g,0,none⟩) n' cap) ea eb ka kb na n' xa ys:=by
 have hs:=h.sz
 refine⟨zs h.oa fun j hj=>hg.block j (zp h.oa j hj).2.1 (fun e=>h.dj j hj e.symm),ho,h.na,?_,fun q hq hq'=>?_,fun k hk h1 h2=>(hg.block k (Nat.lt_of_lt_of_le hk h.sz) (fun e=>h2 e.symm)).trans (h.fr k hk h1 h2),Nat.le_trans h.sz hg.size,hg.os.trans h.os,hg.tape.trans h.tp,hg.output.trans h.out⟩
 ·rcases hat with q | q
  ·exact Or.inl q.symm
  ·refine Or.inr fun j hj=>?_
   have hj:some g=some j:=hj
   cases hj
   omega
 ·have hq':some g=some q:=hq'
  cases hq'
  rcases hat with e | e
  ·exact h.dj g hq e
  ·have:=(zp h.oa g hq).2.1
   omega
end
section
variable {B:Nat} {w w':World} {zb:Nat} {m:ZM} {N N':ZN} {T:List Th} {wh:List HV} {here known:List Bool}
theorem ZQ.zbt {nw:Nat} {xw:List Value} (h:ZQ B w zb m N T nw xw here known) {e:TypeId} {v:Value} {n k:Nat} {xs:List Value} (ho:w.ownsRow B e k v n xs) (hne:e≠35):v.ownBlock≠some zb:=fun q=>by
 obtain⟨_,_,cs,hc⟩:=zp ho zb q
 rw[h.blk] at hc
 injection hc with hc
 injection hc with _ hc _
 exact hne hc.symm
theorem ZQ.nums {nw:Nat} {xw:List Value} (h:ZQ B w zb m N T nw xw here known) (hb:w'.heap[zb]?=some (.cells (adc m N') 35 (0,0))) (ho:∀k,k≠zb→ae6 zb m k→w'.heap[k]?=w.heap[k]?):ZQ B w' zb m N' T nw xw here known :=
 ⟨hb,zs h.th fun j hj=>ho j (fun e=>h.zbt h.th (by decide) (e ▸ hj)) (Or.inr (Or.inl hj)),zs h.wr fun j hj=>ho j (fun e=>h.zbt h.wr (by decide) (e ▸ hj)) (Or.inr (Or.inr (Or.inl hj))),zs h.hr fun j hj=>ho j (fun e=>h.zbt h.hr (by decide) (e ▸ hj)) (Or.inr (Or.inr (Or.inr (Or.inl hj)))),zs h.kr fun j hj=>ho j (fun e=>h.zbt h.kr (by decide) (e ▸ hj)) (Or.inr (Or.inr (Or.inr (Or.inr (Or.inl hj))))),h.lb,h.lv,fun i t b vi h1 h2 h3=>by
  obtain⟨q1,q2⟩:=h.ob i t b vi h1 h2 h3
  have hbm:=List.mem_of_getElem? h2
  refine⟨(ho b (fun e=>?_) (Or.inr (Or.inr (Or.inr (Or.inr (Or.inr (Or.inl hbm))))))).trans q1,zs q2 fun j hj=>ho j (fun e=>h.zbt q2 (by decide) (e ▸ hj)) (Or.inr (Or.inr (Or.inr (Or.inr (Or.inr (Or.inr ⟨vi,List.mem_of_getElem? h3,hj⟩))))))⟩
  rw[e,h.blk] at q1
  injection q1 with q1
  injection q1 with _ q1 _
  exact absurd q1 (by decide),h.nb,h.ni,h.hk,h.zl,h.bl,h.hl,h.aw,h.ai⟩
theorem ac0 {α:Type} {l:List α} {a b:α} {i:Nat} (h:(l++[a])[i]?=some b):(l[i]?=some b∧i<l.length)∨(i=l.length∧b=a):=ab7 h
theorem ZR.things (h:ZR B w zb m N T wh here known) {P:PHp} {D:DataW Unit} (g':HpG B w m.hp m.mb P D m.n m.vyo m.vyf m.voo m.vof m.vn) {vt' vw':Value} {tb:Nat} {vi:Value} {t:Th} {v:HV} {w1:World} (p:Pr B w w1 m.vt m.vw vt' vw' 63 69 1 3 (T.length+1) (wh.length+1) (m.bs.map pv++[pv tb]) (wh.flatMap aaw++aaw v))
  (ht:w.heap[tb]?=some (.cells (agk t vi) 65 (0,0))) (hi:w.ownsRow B 3 1 vi t.is.length (t.is.map iv)) (htl:B≤tb) (hnb:tb ∉ m.bs) (hnv:∀vj∈m.vis,∀g,vi.ownBlock=some g→vj.ownBlock≠some g) (hnn:∀g,vi.ownBlock=some g→m.vn.ownBlock≠some g)
  (hb:w'.heap[zb]?=some (.cells (adc { m with vt:=vt',vw:=vw' } N) 35 (0,0))) (ho:∀k,k≠zb→w'.heap[k]?=w1.heap[k]?) :
  ZR B w' zb { m with vt:=vt',vw:=vw',bs:=m.bs++[tb],vis:=m.vis++[vi] } N (T++[t]) (wh++[v]) here known:=by
 have hblk1:w1.heap[zb]?=w.heap[zb]?:=p.fr zb (hlt h.blk) (h.zbt h.th (by decide)) (h.zbt h.wr (by decide))
 have zbt1:∀{e:TypeId} {v:Value} {n k:Nat} {xs:List Value},w1.ownsRow B e k v n xs→e≠35→v.ownBlock≠some zb:=fun ho hne q=>by
  obtain⟨_,_,cs,hc⟩:=zp ho zb q
  rw[hblk1,h.blk] at hc
  injection hc with hc
  injection hc with _ hc _
  exact hne hc.symm
 -- a block that is neither of both rows
 have far:∀k,k<w.heap.size→k≠zb→m.vt.ownBlock≠some k→m.vw.ownBlock≠some k→w'.heap[k]?=w.heap[k]?:=fun k hk hz h1 h2=>(ho k hz).trans (p.fr k hk h1 h2)
 have typ:∀{k:Nat} {cs:Array Value} {e:TypeId},w.heap[k]?=some (.cells cs e (0,0))→e≠63→e≠69→e≠35→w'.heap[k]?=w.heap[k]?:=fun {k cs e} hk h1 h2 h3=>by
  have ne:∀{e':TypeId} {v:Value} {n q:Nat} {xs:List Value},w.ownsRow B e' q v n xs→e≠e'→v.ownBlock≠some k:=fun ho hne q=>by
   obtain⟨_,_,cs',hc⟩:=zp ho k q
   rw[hk] at hc
   injection hc with hc
   injection hc with _ hc _
   exact hne hc
  refine far k (hlt hk) (fun q=>?_) (ne h.th h1) (ne h.wr h2)
  rw[q,h.blk] at hk
  injection hk with hk
  injection hk with _ hk _
  exact h3 hk.symm
 have row:∀{v:Value} {n q:Nat} {xs:List Value} {e:TypeId},w.ownsRow B e q v n xs→e≠63→e≠69→e≠35→w'.ownsRow B e q v n xs:=fun hr h1 h2 h3=>zs hr fun j hj=>by
  obtain⟨_,_,cs,hc⟩:=zp hr j hj
  exact typ hc h1 h2 h3
 refine⟨hb,?_,?_,row h.hr (by decide) (by decide) (by decide),row h.kr (by decide) (by decide) (by decide),by simp[h.lb],by simp[h.lv],fun i u b vj h1 h2 h3=>?_,fun i j b h1 h2=>?_,fun i j vi' vj g h1 h2 h3 h4=>?_,h.hk,h.zl,fun b hb=>?_,h.hl,fun g hg=>?_,fun vj hv g hg=>?_⟩
 ·have:=zs p.oa fun j hj=>ho j (fun e=>zbt1 p.oa (by decide) (e ▸ hj))
  simpa using this
 ·have:=zs p.ob fun j hj=>ho j (fun e=>zbt1 p.ob (by decide) (e ▸ hj))
  simpa using this
 ·rcases ac0 h1 with ⟨h1,hil⟩ | ⟨rfl,rfl⟩
  ·rcases ac0 h2 with ⟨h2,_⟩ | ⟨q,_⟩
   ·rcases ac0 h3 with ⟨h3,_⟩ | ⟨q,_⟩
    ·obtain⟨q1,q2⟩:=h.ob i u b vj h1 h2 h3
     exact⟨(typ q1 (by decide) (by decide) (by decide)).trans q1,row q2 (by decide) (by decide) (by decide)⟩
    ·have:=h.lv;omega
   ·have:=h.lb;omega
  ·rcases ac0 h2 with ⟨h2,q⟩ | ⟨_,rfl⟩
   ·have:=h.lb;omega
   ·rcases ac0 h3 with ⟨h3,q⟩ | ⟨_,rfl⟩
    ·have:=h.lv;omega
    ·exact⟨(typ ht (by decide) (by decide) (by decide)).trans ht,row hi (by decide) (by decide) (by decide)⟩
 ·rcases ac0 h1 with ⟨h1,q1⟩ | ⟨rfl,e1⟩ <;> rcases ac0 h2 with ⟨h2,q2⟩ | ⟨rfl,e2⟩
  ·exact h.nb i j b h1 h2
  ·exact absurd (e2 ▸ List.mem_of_getElem? h1) hnb
  ·exact absurd (e1 ▸ List.mem_of_getElem? h2) hnb
  ·rfl
 ·rcases ac0 h1 with ⟨r1,q1⟩ | ⟨e1,f1⟩ <;> rcases ac0 h2 with ⟨r2,q2⟩ | ⟨e2,f2⟩
  ·exact h.ni i j vi' vj g r1 r2 h3 h4
  ·exact absurd h3 (hnv _ (List.mem_of_getElem? r1) g (f2 ▸ h4))
  ·exact absurd h4 (hnv _ (List.mem_of_getElem? r2) g (f1 ▸ h3))
  ·rw[e1,e2]
 ·rcases List.mem_append.1 hb with q | q
  ·exact h.bl b q
  ·rw[List.mem_singleton.1 q];exact htl
 ·have hg:vw'.ownBlock=some g:=hg
  show m.vyf.ownBlock≠some g∧m.vof.ownBlock≠some g
  rcases p.nb with q | q
  ·rw[q] at hg
   exact h.aw g hg
  ·have:=q g hg
   exact⟨fun e=>by have:=(zp g'.at'.yf g e).2.1;omega,fun e=>by have:=(zp g'.at'.of' g e).2.1;omega⟩
 ·rcases List.mem_append.1 hv with q | q
  ·exact h.ai vj q g hg
  ·rw[List.mem_singleton.1 q] at hg
   exact hnn g hg
theorem ZR.flags (h:ZR B w zb m N T wh here known) {vh' vk':Value} {b c:Bool} {w1:World} (p:Pr B w w1 m.vh m.vk vh' vk' 4 4 1 1 (here.length+1) (known.length+1) (here.map Value.bool++[.bool b]) (known.map Value.bool++[.bool c]))
  (hb:w'.heap[zb]?=some (.cells (adc { m with vh:=vh',vk:=vk' } N) 35 (0,0))) (ho:∀k,k≠zb→w'.heap[k]?=w1.heap[k]?) :
  ZR B w' zb { m with vh:=vh',vk:=vk' } N T wh (here++[b]) (known++[c]):=by
 have hblk1:w1.heap[zb]?=w.heap[zb]?:=p.fr zb (hlt h.blk) (h.zbt h.hr (by decide)) (h.zbt h.kr (by decide))
 have zbt1:∀{e:TypeId} {v:Value} {n k:Nat} {xs:List Value},w1.ownsRow B e k v n xs→e≠35→v.ownBlock≠some zb:=fun ho hne q=>by
  obtain⟨_,_,cs,hc⟩:=zp ho zb q
  rw[hblk1,h.blk] at hc
  injection hc with hc
  injection hc with _ hc _
  exact hne hc.symm
 have typ:∀{k:Nat} {cs:Array Value} {e:TypeId},w.heap[k]?=some (.cells cs e (0,0))→e≠4→e≠35→w'.heap[k]?=w.heap[k]?:=fun {k cs e} hk h1 h3=>by
  have ne:∀{e':TypeId} {v:Value} {n q:Nat} {xs:List Value},w.ownsRow B e' q v n xs→e≠e'→v.ownBlock≠some k:=fun ho hne q=>by
   obtain⟨_,_,cs',hc⟩:=zp ho k q
   rw[hk] at hc
   injection hc with hc
   injection hc with _ hc _
   exact hne hc
  refine(ho k (fun q=>?_)).trans (p.fr k (hlt hk) (ne h.hr h1) (ne h.kr h1))
  rw[q,h.blk] at hk
  injection hk with hk
  injection hk with _ hk _
  exact h3 hk.symm
 have row:∀{v:Value} {n q:Nat} {xs:List Value} {e:TypeId},w.ownsRow B e q v n xs→e≠4→e≠35→w'.ownsRow B e q v n xs:=fun hr h1 h3=>zs hr fun j hj=>by
  obtain⟨_,_,cs,hc⟩:=zp hr j hj
  exact typ hc h1 h3
 refine⟨hb,row h.th (by decide) (by decide),row h.wr (by decide) (by decide),?_,?_,h.lb,h.lv,fun i u b vj h1 h2 h3=>?_,h.nb,h.ni,p.dj,h.zl,h.bl,h.hl,h.aw,h.ai⟩
 ·have:=zs p.oa fun j hj=>ho j (fun e=>zbt1 p.oa (by decide) (e ▸ hj))
  simpa using this
 ·have:=zs p.ob fun j hj=>ho j (fun e=>zbt1 p.ob (by decide) (e ▸ hj))
  simpa using this
 ·obtain⟨q1,q2⟩:=h.ob i u b vj h1 h2 h3
  exact⟨(typ q1 (by decide) (by decide)).trans q1,row q2 (by decide) (by decide)⟩
end
end
section
open Go.RowKit Go.Maps
theorem HpG.far {B:Nat} {w w':World} {m:ZM} {P:PHp} {D:DataW Unit} (h:HpG B w m.hp m.mb P D m.n m.vyo m.vyf m.voo m.vof m.vn) (ho:∀k,k<w.heap.size→¬OutH m k→w'.heap[k]?=w.heap[k]?) (hs:w.heap.size≤w'.heap.size):HpG B w' m.hp m.mb P D m.n m.vyo m.vyf m.voo m.vof m.vn:=by
 have mv:∀{e:TypeId} {v:Value} {n q:Nat} {xs:List Value},w.ownsRow B e q v n xs→(∀k,v.ownBlock=some k→¬OutH m k)→w'.ownsRow B e q v n xs:=fun hr hn=>zs hr fun j hj=>ho j (zp hr j hj).2.1 (hn j hj)
 obtain⟨es,cl,h1,h2⟩:=h.own
 exact⟨⟨(ho _ (hlt h.at'.blk) fun q=>q.hp rfl).trans h.at'.blk,mv h.at'.yo fun k e q=>q.yo e,mv h.at'.yf fun k e q=>q.yf e,mv h.at'.oo fun k e q=>q.oo e,mv h.at'.of' fun k e q=>q.of' e,mv h.at'.nt fun k e q=>q.nt e⟩,⟨es,cl,(ho _ (hlt h1) fun q=>q.mb rfl).trans h1,h2⟩,h.ao,h.af,h.small,h.few,h.two,h.cnt,h.pot,h.top,h.vals,Nat.le_trans h.hB hs⟩
theorem AllocZ.cell {B:Nat} {w w':World} {m:ZM} {P:PHp} {D:DataW Unit} {kd tag:Int} {sz:Nat} (h:AllocZ B w m P D kd tag sz w') {a:Addr} {v:Value} (hc:w.cell? a=some v) (ho:OutH m a.block):w'.cell? a=some v:=by
 obtain⟨_,_,_,_,_,_,_,_,_,_,hf,_⟩:=h
 exact(World.cell?_of_block (hf a.block (ze hc) ho)).trans hc
def stB (wt a b c bits:Int):Obj:=.cells #[.int .i64 wt,.int .i64 a,.int .i64 b,.int .i64 c,.int .u64 bits] 42
structure Mk1 (B:Nat) (w wc:World) (zb sb:Nat) (m2:ZM) (P P':PHp) (D D':DataW Unit) (N:ZN) (T:List Th) (wh:List HV) (here known:List Bool) (wt a b bits:Int) (sz:Nat) (id:Int):Prop where
 hg:HpG B wc m2.hp m2.mb P' D' m2.n m2.vyo m2.vyf m2.voo m2.vof m2.vn
 pe:P'.Y=P.Y++[⟨a,b,id,aay sz,false⟩]∧P'.O=P.O∧P'.fy=P.fy∧P'.fo=P.fo∧P'.noted=P.noted∧P'.ry=P.ry∧P'.ro=P.ro∧P'.minors=P.minors∧P'.majors=P.majors
 pd:(id=0∧a=4∧P'.last=P.last∧D'=D)∨(id=P.last+1∧a≠4∧P'.last=P.last+1∧D'=D.put (.int .i64 (P.last+1)) (.lit (.int .i64 (P.fy+2*P.Y.length))))
 zr:ZR B wc zb m2 N T wh here known
 st:wc.heap[sb]?=some (stB wt a b sz bits)
 sl:B≤sb
 bl:Below B w wc
section
variable {B:Nat} {w wc:World} {zb sb tb:Nat} {m2:ZM} {P P':PHp} {D D':DataW Unit} {N:ZN} {T:List Th} {wh:List HV} {here known:List Bool} {wt a b bits:Int} {sz:Nat} {id:Int}
theorem Mk1.keep (h:Mk1 B w wc zb sb m2 P P' D D' N T wh here known wt a b bits sz id) {w':World} (hb:Below wc.heap.size wc w'):Mk1 B w w' zb sb m2 P P' D D' N T wh here known wt a b bits sz id :=
 ⟨h.hg.keep hb,h.pe,h.pd,h.zr.keep hb,(hb.block _ (hlt h.st)).trans h.st,h.sl,h.bl.trans (hb.mono h.hg.hB)⟩
theorem Mk1.start {k:Nat} {m:ZM} {s:ZS} {wa:World} (h:ZAt B k w zb m s) (hba:Below w.heap.size w wa) (hz:AllocZ B wa m s.P s.D a b sz wc) (hst:wa.heap[sb]?=some (stB wt a b sz bits)) (hos:OutH m sb) (hsl:B≤sb) :
  ∃m2 P' D' id,Mk1 B w wc zb sb m2 s.P P' s.D D' (aau s.P) s.T s.wh s.here s.known wt a b bits sz id∧(m2.n≤m.n+1∧m2.hp=m.hp):=by
 obtain⟨P',D',n',id,vo,vf,q1,q2,q3,q4,q5,q6,q7,q8,q9,q10⟩:=hz
 have zk:=h.zr.keep hba
 have gk:=h.hg.keep hba
 refine⟨{ m with n:=n',vyo:=vo,vyf:=vf },P',D',id,⟨q1,q2,q3,?_,(q5 sb (hlt hst) hos).trans hst,hsl,?_⟩,q4,rfl⟩
 ·exact ZQ.heap (vyo':=vo) (vyf':=vf) (voo':=m.voo) (vof':=m.vof) (vn':=m.vn) (n':=n') zk (fun k hk=>q5 k (zk.lt hk).2 (zk.out gk hk)) q6 (Or.inl rfl) (Or.inl rfl)
 ·exact(hba.mono h.hg.hB).trans ⟨q8,q9,q10,q7,fun k hk=>q5 k (Nat.lt_of_lt_of_le hk gk.hB) (ahz zk gk hk)⟩
structure MkT (B:Nat) (wc:World) (zb tb:Nat) (m2:ZM) (vi:Value) (t:Th):Prop where
 bk:wc.heap[tb]?=some (.cells (agk t vi) 65 (0,0))
 iv':wc.ownsRow B 3 1 vi t.is.length (t.is.map iv)
 tl:B≤tb
 nb:tb ∉ m2.bs
 nv:∀vj∈m2.vis,∀g,vi.ownBlock=some g→vj.ownBlock≠some g
 nn:∀g,vi.ownBlock=some g→m2.vn.ownBlock≠some g
theorem MkT.keep {vi:Value} {t:Th} (h:MkT B wc zb tb m2 vi t) {w':World} (hb:Below wc.heap.size wc w'):MkT B w' zb tb m2 vi t :=
 ⟨(hb.block _ (hlt h.bk)).trans h.bk,aa8 h.iv' hb,h.tl,h.nb,h.nv,h.nn⟩
theorem Mk1.made (h:Mk1 B w wc zb sb m2 P P' D D' N T wh here known wt a b bits sz id) {o:Obj} (ho:o=.cells ((List.replicate sz (0:Int)).map iv).toArray 3) (hsz:sz≤1000) :
  MkT B ((wc.alloc o).alloc (.cells #[.int .i64 a,.int .i64 b,.int .i64 0,.bool false,.slice (some ⟨wc.heap.size,0,none⟩) sz sz] 65)) zb (wc.heap.size+1) m2 (.slice (some ⟨wc.heap.size,0,none⟩) sz sz) ⟨a,b,0,false,List.replicate sz 0⟩:=by
 have hb1:Below wc.heap.size wc (wc.alloc o):=(Below.refl _ _).alloc (Nat.le_refl _) _
 have hs1:(wc.alloc o).heap.size=wc.heap.size+1:=by simp
 have hB:=h.hg.hB
 refine⟨ab2 _ _ hs1,?_,by omega,fun q=>?_,fun vj hv g hg q=>?_,fun g hg q=>?_⟩
 ·refine⟨by simp,Or.inr ⟨wc.heap.size,sz,_,by simp,hB,(((Below.refl _ _).alloc (Nat.le_refl _) _).block _ (by rw[hs1];omega)).trans (by rw[ho];exact aan _ _),?_,?_,?_,?_⟩⟩
  ·simp
  ·unfold maxLen;omega
  ·simp
  ·simp
 ·have:=(h.zr.lt (Or.inr (Or.inr (Or.inr (Or.inr (Or.inr (Or.inl q))))))).2
  omega
 ·have hg:some wc.heap.size=some g:=hg
  cases hg
  have:=(h.zr.lt (Or.inr (Or.inr (Or.inr (Or.inr (Or.inr (Or.inr ⟨vj,hv,q⟩))))))).2
  omega
 ·have hg:some wc.heap.size=some g:=hg
  cases hg
  have:=(zp h.hg.at'.nt _ q).2.1
  omega
theorem Mk1.setId {vi:Value} {t:Th} (h:Mk1 B w wc zb sb m2 P P' D D' N T wh here known wt a b bits sz id) (k:MkT B wc zb tb m2 vi t) (x:Int) :
  Mk1 B w (wc.setCell ⟨tb,2,none⟩ (.int .i64 x)) zb sb m2 P P' D D' N T wh here known wt a b bits sz id∧MkT B (wc.setCell ⟨tb,2,none⟩ (.int .i64 x)) zb tb m2 vi { t with id:=x }:=by
 have hsz:(wc.setCell ⟨tb,2,none⟩ (.int .i64 x)).heap.size=wc.heap.size:=by simp[World.setCell]
 have oth:∀j,j≠tb→(wc.setCell ⟨tb,2,none⟩ (.int .i64 x)).heap[j]?=wc.heap[j]?:=fun j hj=>zo _ hj
 have ot:OutH m2 tb:=acq h.hg k.bk (by decide) (by decide) (fun e=>absurd e (by decide)) (fun e=>absurd e (by decide)) (fun e=>absurd e (by decide))
 have tn:∀{j:Nat} {cs:Array Value} {e:TypeId} {fr:Nat×Nat},wc.heap[j]?=some (.cells cs e fr)→e≠65→j≠tb:=fun hj hne e=>by
  rw[e,k.bk] at hj
  injection hj with hj
  injection hj with _ hj _
  exact hne hj.symm
 have rn:∀{v:Value} {n q:Nat} {xs:List Value} {e:TypeId},wc.ownsRow B e q v n xs→e≠65→∀j,v.ownBlock=some j→j≠tb:=fun hr hne j hj=>by
  obtain⟨_,_,cs,hc⟩:=zp hr j hj
  exact tn hc hne
 refine⟨⟨h.hg.far (fun j _ hn=>oth j fun e=>hn (e ▸ ot)) (by rw[hsz];exact Nat.le_refl _),h.pe,h.pd,h.zr.move fun j hj=>oth j ?_,(oth _ (tn h.st (by decide))).trans h.st,h.sl,h.bl.trans ⟨rfl,rfl,rfl,by rw[hsz];exact Nat.le_refl _,fun j hj=>oth j (by have:=k.tl;omega)⟩⟩,⟨?_,zs k.iv' fun j hj=>oth j (rn k.iv' (by decide) j hj),k.tl,k.nb,k.nv,k.nn⟩⟩
 ·rcases hj with rfl | q | q | q | q | q | ⟨vj,q1,q2⟩
  ·exact tn h.zr.blk (by decide)
  ·exact rn h.zr.th (by decide) j q
  ·exact rn h.zr.wr (by decide) j q
  ·exact rn h.zr.hr (by decide) j q
  ·exact rn h.zr.kr (by decide) j q
  ·exact fun e=>k.nb (e ▸ q)
  ·obtain⟨_,_,cs,hc⟩:=h.zr.ofI q1 q2
   exact tn hc (by decide)
 ·have:=aad k.bk 2 (.int .i64 x)
  simpa [agk] using this
end
end
end Go.Proofs.YtpnghfghdbijlaaGreatDoor
