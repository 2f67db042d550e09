/- Proved: for every two numbers, every list of steps and either answer to whether the heap is copied, rewindlaw.HeapPlays answers true; the package-level variable that the road reads starts as the program's own text lays it (the card ties it), and the arguments read behind the call as they did. -/
import Derived.Test.YtpnghfghdbijlaaGreatDoorM35
import Derived.Test.YtpnghfghdbijlaaGreatDoorCards
import Derived.Test.YtpnghfghdbijlaaGreatDoorTie
import Derived.ProofKit
import Derived.Deep.Slices
import Derived.Carry
import Derived.LaidLaws
import Derived.LaidHandle
import Derived.ReadAgain
import Derived.OpenShut
import Derived.Stop.Joined
import Derived.SevenTiedAt
open Go.Proofs.Tryz
namespace Go.Proofs.YtpnghfghdbijlaaGreatDoor
open Go.RowKit
set_option linter.unusedVariables false
set_option linter.unusedSimpArgs false
set_option maxRecDepth 100000
set_option maxHeartbeats 40000000
section
open Go.ChangeShapes Go.WideShapes Go.RowKit Go.Deep
theorem own:ownKnob prog.godebug=none:=by kernel_rfl
theorem gErr : prog.globalNamed "errors.errorType" = some 0 := by kernel_rfl
theorem aqz : (prog.cutTypes.find? (·.1 == "internal/reflectlite.rtype")).map (·.2) = some 155 := by kernel_rfl
theorem oneRow:((List.range prog.types.size).filter fun t=>prog.rowNamed t [101,114,114,111,114])=[25]:=by kernel_rfl
theorem ao9:typeHandle prog 25=.pointer (some ⟨1,25,none⟩):=by kernel_rfl
theorem of_laid {W:World} (h:laidMetH prog Rows.heapPlaysRow.laid W):ErrT W:=by
 have h' : handlesMet prog [("errors.errorType", Rows.laid_errors_errorType)] W := h.2
 obtain⟨name,u,ty,e1,e2,e3,e4,e5⟩:=h' _ (List.mem_singleton.2 rfl)
 have en:name=[101,114,114,111,114]:=(Option.some.inj e1).symm
 subst en
 obtain rfl:=Option.some.inj (aqz.symm.trans e2)
 have hm:ty∈(List.range prog.types.size).filter fun t=>prog.rowNamed t [101,114,114,111,114]:=List.mem_filter.2 ⟨List.mem_range.2 e3,e4⟩
 rw[oneRow] at hm
 obtain rfl:=List.mem_singleton.1 hm
 rw[ao9] at e5
 have:=World.var?_cell gErr e5 0
 simpa [ErrT,errT] using this
theorem kids:Kids prog (·<prog.types.size):=kids_rows (by kernel_rfl) (by kernel_rfl)
theorem full:∀t e,t<prog.types.size→prog.underlying t=some (.slice e)→0<prog.cellsOf e:=slices_full_of prog (by kernel_rfl)
theorem akk {w w':World} (h:Below w.heap.size w w') (may:MemPlace→Prop):w.keptBut w' may:=by
 refine⟨h.os,h.output,fun i hi=>?_⟩
 rw[h.block i hi]
 exact(World.keptBut_refl w may).2.2 i hi
theorem ajg {H:Type} {enc:TypeId×Value→H} {P:Program} {W W':World} {base:Nat} {sp:Nat→Bool} {hd:Bool} (hB:Below W.heap.size W W'):∀{ts:List TypeId} {vs:List Value} {ds:List (DataW H)} {ps:List MemPlace},DataW.TrodAll enc P W base sp hd ts vs ds ps→DataW.TrodAll enc P W' base sp hd ts vs ds ps
 | [],[],[],_,h=>h
 | _ :: _,_ :: _,_ :: _,_,⟨p,q,⟨n,hn⟩,h2,e⟩=>⟨p,q,⟨n,DataW.trod_carry n _ _ _ hn fun x hx=>hB.same (DataW.trod_lt n _ _ _ hn x hx)⟩,ajg hB h2,e⟩
theorem akl {H:Type} {enc:TypeId×Value→H} {P:Program} {f:Func} {s:ChangeSpec} {apart fresh handsOn again:Bool} {W W':World} {args:Array Value} {v:Value} {ds gs:List (DataW H)} {before:List MemPlace}
  (hW:DataW.Whole enc P f.params.toList s.vars apart W args.toList ds gs before)
  (hres:∀(b:Nat) (sp:Nat→Bool) (hd:Bool),DataW.TrodAll enc P W' b sp hd f.resultTypes.toList (v.resultList f.resultTypes.size) (s.fn H (ds++gs)).results [])
  (hargs:∀sp:Nat→Bool,(∀p∈before,sp p.block=true)→DataW.TrodAll enc P W' 0 sp true f.params.toList args.toList (s.fn H (ds++gs)).args before)
  (hvars:∀sp:Nat→Bool,DataW.TrodVars enc P W' sp s.vars (s.fn H (ds++gs)).vars [])
  (hb:Below W.heap.size W W')
  (hok:∀(j:Nat) (t:TypeId) (r:Value),f.resultTypes[j]?=some t→(v.resultList f.resultTypes.size)[j]?=some r→Value.okWide P W' .any 0 t r) :
  s.post enc P f apart fresh handsOn again W args v W':=by
 have hlt:=hW.lt
 have hold:∀p∈before,(fun b=>decide (b<W.heap.size)) p.block=true:=fun p hp=>by simpa using hlt p hp
 refine⟨ds,gs,before,[],before,[],hW,hres _ _ _,hargs _ hold,hvars _,akk hb _,fun _=>?_⟩
 obtain⟨_,_,_,_,_,hz,hn⟩:=hW
 refine⟨hok,_,_,([]++before)++[],⟨[]++before,[],trodAll_append (hargs _ (fun _ _=>rfl)) (hres _ _ _),hvars _,rfl,?_,?_⟩,?_⟩
 ·intro b off hp
  have hp':MemPlace.cell b off∈before:=by simpa using hp
  rw[World.frozen?_of_block (hb.block b (hlt _ hp'))]
  exact hz b off hp'
 ·intro ha
  simpa using hn ha
 ·intro p hp _
  simpa using hp
theorem apa {w:World} {a:Addr} {v:Value} (h:w.cell? a=some v):a.spot=none:=by
 unfold World.cell? at h
 split at h
 ·split at h
  ·cases h
  ·rename_i hh
   simpa using hh
 ·cases h
theorem apb {n:Int} (h:(Lit.int .i64 n).wf=true):I64 n:=by
 have h':(IntKind.i64.min≤n∧n≤IntKind.i64.max):=by simpa [Lit.wf] using h
 exact h'
theorem alq {α:Type} {p:Nat→α→Prop}:∀n,(∀i,i<n→∃a,p i a)→∃l:List α,l.length=n∧∀i a,l[i]?=some a→p i a
 | 0,_=>⟨[],rfl,fun i a h=>by simp at h⟩
 | n+1,h=>by
  obtain⟨l,h1,h2⟩:=alq n (fun i hi=>h i (by omega))
  obtain⟨a,ha⟩:=h n (by omega)
  refine⟨l++[a],by simp[h1],fun i b hb=>?_⟩
  rcases ac0 hb with ⟨hb,_⟩ | ⟨e,rfl⟩
  ·exact h2 i b hb
  ·rw[e,h1]
   exact ha
theorem akj:prog.cellsOf 42=5:=by kernel_rfl
theorem cellsI:prog.cellsOf 3=1:=by kernel_rfl
theorem cellsU:prog.cellsOf 40=1:=by kernel_rfl
theorem apc {H:Type} {enc:TypeId×Value→H} {w:World} {base:Nat} {sp:Nat→Bool} {hd:Bool} {fuel:Nat} {cs:List Value} {x:DataW H×List MemPlace} (h:DataW.trod enc prog w base sp hd fuel 42 cs=some x):∃q:St5,cs=[.int .i64 q.what,.int .i64 q.a,.int .i64 q.b,.int .i64 q.c,.int .u64 q.bits]∧I64 q.c:=by
 obtain⟨ys,n,rfl,hy,hl,hyl,hf⟩:=DataW.trod_struct underlying42 h
 rw[akj] at hl
 match ys,hyl with
 | [y0,y1,y2,y3,y4],_ =>
  have f0:DataW.trod enc prog w base sp hd n 3 ((cs.drop 0).take (prog.cellsOf 3))=some y0:=hf 0 _ rfl
  have f1:DataW.trod enc prog w base sp hd n 3 ((cs.drop 1).take (prog.cellsOf 3))=some y1:=hf 1 _ rfl
  have f2:DataW.trod enc prog w base sp hd n 3 ((cs.drop 2).take (prog.cellsOf 3))=some y2:=hf 2 _ rfl
  have f3:DataW.trod enc prog w base sp hd n 3 ((cs.drop 3).take (prog.cellsOf 3))=some y3:=hf 3 _ rfl
  have f4:DataW.trod enc prog w base sp hd n 40 ((cs.drop 4).take (prog.cellsOf 40))=some y4:=hf 4 _ rfl
  rw[cellsI] at f0 f1 f2 f3
  rw[cellsU] at f4
  obtain⟨n0,e0,_,_⟩:=DataW.trod_int underlying3 f0
  obtain⟨n1,e1,_,_⟩:=DataW.trod_int underlying3 f1
  obtain⟨n2,e2,_,_⟩:=DataW.trod_int underlying3 f2
  obtain⟨n3,e3,_,w3⟩:=DataW.trod_int underlying3 f3
  obtain⟨n4,e4,_,_⟩:=DataW.trod_int underlying40 f4
  match cs,hl with
  | [a,b,c,d,e],_ =>
   simp only[List.drop_zero,List.take_succ_cons,List.take_zero,List.drop_succ_cons,List.cons.injEq,and_true] at e0 e1 e2 e3 e4
   subst e0 e1 e2 e3 e4
   exact⟨⟨n0,n1,n2,n3,n4⟩,rfl,apb w3⟩
theorem anu {H:Type} {enc:TypeId×Value→H} {w:World} {sp:Nat→Bool} {hd:Bool} {a0:Option Addr} {n0 c0:Nat} {d:DataW H} {p:List MemPlace} (h:DataW.Trod enc prog w 0 sp hd 22 (.slice a0 n0 c0) d p):∃L:List St5,L.length=n0∧StepsAt w a0 L∧∀q∈L,I64 q.c:=by
 obtain⟨fuel,h⟩:=h
 rcases open_slice underlying22 h with ⟨h0,_⟩ | ⟨a,len,cap,m,n,D,Pl,hcs,hb,hle,hcap,hm,_,hx⟩
 ·simp[Value.cells] at h0
  obtain⟨rfl,rfl,rfl⟩:=h0
  exact⟨[],rfl,fun i q hq=>(by simp at hq),fun q hq=>(by cases hq)⟩
 ·simp[Value.cells] at hcs
  obtain⟨rfl,rfl,rfl⟩:=hcs
  have hlm:n0≤m:=by rw[hm];split <;> omega
  rw[akj] at hx
  have one:∀i,i<n0→∃q:St5,w.cell? (a.add (i*5))=some (.int .i64 q.what)∧w.cell? (a.add (i*5+1))=some (.int .i64 q.a)∧w.cell? (a.add (i*5+2))=some (.int .i64 q.b)∧w.cell? (a.add (i*5+3))=some (.int .i64 q.c)∧w.cell? (a.add (i*5+4))=some (.int .u64 q.bits)∧I64 q.c:=fun i hi=>by
   obtain⟨cs',q1,q2⟩:=hx i (by omega)
   obtain⟨q,rfl,hq⟩:=apc q2
   obtain⟨_,q3,q4⟩:=World.cells?_some q1
   refine⟨q,?_,?_,?_,?_,?_,hq⟩
   ·have:=q4 0 (by omega);rw[add_add] at this;exact this
   ·have:=q4 1 (by omega);rw[add_add] at this;exact this
   ·have:=q4 2 (by omega);rw[add_add] at this;exact this
   ·have:=q4 3 (by omega);rw[add_add] at this;exact this
   ·have:=q4 4 (by omega);rw[add_add] at this;exact this
  obtain⟨L,hL,hp⟩:=alq n0 one
  refine⟨L,hL,fun i q hq=>?_,fun q hq=>?_⟩
  ·obtain⟨c0',c1,c2,c3,c4,_⟩:=hp i q hq
   have hi:=(List.getElem?_eq_some_iff.1 hq).1
   have hs:a.spot=none:=by
    obtain⟨_,q0,_⟩:=one 0 (by omega)
    have:=apa q0
    simpa [Addr.add] using this
   have ha:a=⟨a.block,a.off,none⟩:=by cases a;simp_all
   have ea:∀k,a.add k=⟨a.block,a.off+k,none⟩:=fun k=>by
    unfold Addr.add
    split
    ·rename_i e
     rw[e,Nat.add_zero]
     exact ha
    ·simp
   rw[ea] at c0' c1 c2 c3 c4
   exact⟨a.block,a.off,by rw[←ha],c0',by rw[Nat.add_assoc];exact c1,by rw[Nat.add_assoc];exact c2,by rw[Nat.add_assoc];exact c3,by rw[Nat.add_assoc];exact c4⟩
  ·obtain⟨i,hi⟩:=List.getElem?_of_mem hq
   exact(hp i q hi).2.2.2.2.2
def apd (w0:World):World :=
 { w0 with heap:=w0.heap.modify 0 fun
   | .cells _ t frozen=>.cells #[errT] t frozen
   | o=>o }
theorem akm (os:Os) (args:Array Value):laidMetH prog Rows.heapPlaysRow.laid ((apd (World.holding prog os ⟨#[],#[],[]⟩)).forCall (fun _ _=>0) ⟨#[],args,[]⟩).memory :=
 laidMetH_of_parts (laidMet_of_run' 8 (by kernel_rfl) (by kernel_rfl)) (by kernel_rfl)
theorem lifted (os:Os) (started:os.Started) (H:Type) (enc:TypeId×Value→H) :
  ReturnsInHanded {} Tryz.checked os 3 .any (fun w args=>(Rows.heapPlaysSpec.pre enc prog Tryz.f3 [] false w args∧laidMetH prog Rows.heapPlaysRow.laid w)∧sizedMet enc prog Tryz.f3 (OpenSpec.ofChange Rows.heapPlaysSpec) false w args)
   (Rows.heapPlaysSpec.post enc prog Tryz.f3 false true false false):=by
 refine returnsInHanded_of_change_and (C:=Tryz.checked) (X:=fun w _=>laidMetH prog Rows.heapPlaysRow.laid w) (fun _ _ _ hh h=>h.of_heap hh) own started (by kernel_rfl) func3
  (ChangeSpec.witness_at (enc:=enc) (C:=Tryz.checked) (os:=os) (X:=fun w _=>laidMetH prog Rows.heapPlaysRow.laid w) false (apd (World.holding prog os ⟨#[],#[],[]⟩)) #[.int .i64 0,.int .i64 0,.slice none 0 0,.bool false] 8 rfl (by kernel_rfl) (by kernel_rfl) (by kernel_rfl) (by kernel_rfl) (by kernel_rfl) (akm os _)) ?_
 intro W base args ds gs before hval0 hW _ hwt hL _
 have hval:∀(j:Nat) t v,Tryz.f3.params[j]?=some t→args[j]?=some v→Value.okWide prog W .any base t v:=hval0
 have hW':=hW
 obtain⟨p,q,hA0,hV,rfl,hfz,hnd⟩:=hW
 have hA:DataW.TrodAll enc prog W 0 (fun _=>true) true Tryz.f3.params.toList args.toList ds p:=hA0
 have hAk:=hA
 obtain⟨rfl,rfl⟩:=trodVars_none hV
 rw[Tryz.params3] at hA hval
 obtain⟨v0,v1,v2,v3,d0,d1,d2,d3,p0,p1,p2,p3,rfl,rfl,rfl,h0,h1,h2,h3⟩:=trodAll_four hA
 obtain⟨n,rfl⟩:=okWide_int underlying3 (hval 0 3 v0 rfl rfl)
 obtain⟨o,rfl⟩:=okWide_int underlying3 (hval 1 3 v1 rfl rfl)
 obtain⟨a2,l2,c2,rfl⟩:=okWide_slice underlying22 (hval 2 22 v2 rfl rfl)
 obtain⟨cp,rfl⟩:=okWide_bool underlying4 (hval 3 4 v3 rfl rfl)
 have herr:=of_laid hL
 obtain⟨L,rfl,hs,hci⟩:=anu h2
 simp only[List.append_nil] at hW'
 refine(ao8 (n:=n) (o:=o) (c:=c2) (cp:=cp) hs herr hci).mono fun e W' ⟨he,hb⟩=>?_
 subst he
 exact⟨_,rfl,akl hW' (fun _ _ _=>trodAll_mk1 (shut_bool underlying4 _)) (fun sp hsp=>ajg hb (DataW.TrodAll.respare kids full (by rw[Tryz.params3];decide +kernel) hAk hsp)) (fun _=>rfl) hb
  (ok_one (by kernel_rfl) rfl (okWide_bool_mk underlying4 _))⟩
theorem ajh:Rows.HeapPlaysSaid :=
 OpenClaim.holds_of_wide 3 Tryz.f3 rfl rfl rfl rfl rfl rfl rfl ⟨rfl,rfl,rfl,rfl,rfl⟩ rfl rfl rfl rfl rfl (by kernel_rfl) func3 (by kernel_rfl)
  (of_decide_eq_true (by kernel_rfl)) (by unfold Func.isWrapper;first | (rw[if_pos (by decide +kernel)];kernel_rfl) | (rw[if_neg (by decide +kernel)];exact⟨rfl,rfl⟩))
  (fun os started H enc _=>lifted os started H enc)
theorem plain (f : FuncId) (fn : Func) (hf : Tryz.pinned.checked.prog.funcNamed "rewind/rewindlaw.HeapPlays" = some f) (hfn : Tryz.pinned.checked.prog.funcs[f]? = some fn) :
  true=Tryz.pinned.checked.prog.looks []∧∀(j:Nat) t,fn.params[j]?=some t→Tryz.pinned.checked.prog.wantsStandIn t=false:=by
 obtain rfl : f = 3 := Option.some.inj ((show prog.funcNamed "rewind/rewindlaw.HeapPlays" = some 3 by kernel_rfl).symm.trans hf) |>.symm
 obtain rfl:fn=Tryz.f3:=(Option.some.inj (func3.symm.trans hfn)).symm
 refine⟨by kernel_rfl,fun j t ht=>?_⟩
 rw[Tryz.params3] at ht
 have hm:=Array.mem_of_getElem? ht
 simp only[List.mem_toArray,List.mem_cons,List.not_mem_nil,or_false] at hm
 rcases hm with rfl | rfl | rfl | rfl
 ·exact(show prog.wantsStandIn 3=false by kernel_rfl)
 ·exact(show prog.wantsStandIn 3=false by kernel_rfl)
 ·exact(show prog.wantsStandIn 22=false by kernel_rfl)
 ·exact(show prog.wantsStandIn 4=false by kernel_rfl)
theorem card_holds:Rows.HeapPlaysCardSaid :=
 Claim7.holds_tied_plain_at .later [] _ _ _ _ ajh (fun _ h=>by cases h) (by kernel_rfl) (fun _ h=>by cases h) heapPlays_row_tie rfl ⟨rfl,rfl⟩ (by kernel_rfl) rfl plain (by kernel_rfl)
#print axioms card_holds
end
end Go.Proofs.YtpnghfghdbijlaaGreatDoor
