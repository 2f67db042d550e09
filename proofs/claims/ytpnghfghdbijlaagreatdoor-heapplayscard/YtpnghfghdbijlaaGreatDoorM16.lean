/- A part. -/
import Derived.Test.YtpnghfghdbijlaaGreatDoorM15
import Derived.Deep.RegionHeld
open Go.Proofs.Tryz
namespace Go.Proofs.YtpnghfghdbijlaaGreatDoor
open Go.RowKit
set_option linter.unusedVariables false
set_option linter.unusedSimpArgs false
set_option maxRecDepth 100000
set_option maxHeartbeats 40000000
section
open Go Go.RowKit
section
variable {P:Program} {ops:Array Oper} {Q:Exit→Act→World→Prop} {md:Region.Mode} {S:World→Prop} {c:Nat}
def acs (P:Program) (md:Region.Mode) (ops:Array Oper) (Q:Exit→Act→World→Prop) (S:World→Prop) (c:Nat):Nat→Array Bool→Act→World→Prop
 | 0,l,a,w=>Region.ready md ops l=[]∧Q .normal a w
 | n+1,l,a,w=>(Region.ready md ops l=[]→Q .normal a w)∧∀j,j∈Region.ready md ops l→wpOp P ops Q j (fun a' w'=>((l.setIfInBounds j true).getD c true=false→S w')∧acs P md ops Q S c n (l.setIfInBounds j true) a' w') a w
theorem akf:∀(n:Nat) {l:Array Bool} {a:Act} {w:World},acs P md ops Q S c n l a w→wpAny P md ops Q n l a w
 | 0,_,_,_,h=>h
 | n+1,_,_,_,h=>⟨h.1,fun j hj=>wpOp_mono (fun _ _ k=>akf n k.2) (h.2 j hj)⟩
def ah0 (md:Region.Mode) (ops:Array Oper) (l:Array Bool) (i:Nat) (cs:List Nat):Bool :=
 cs.all fun c=>!(l.getD c true)&&!(c==i)&&(match ops[c]? with | some o=>o.after.any fun e=>Region.binds md e&&(e.on==i||cs.contains e.on) | none=>false)
theorem ag2 {l:Array Bool} {i:Nat} {cs:List Nat} (h:ah0 md ops l i cs=true) {k:Nat} (hk:k∈cs):l.getD k true=false∧k≠i∧∃o,ops[k]?=some o∧∃e∈o.after,Region.binds md e=true∧(e.on=i∨e.on∈cs):=by
 have:=List.all_eq_true.1 h k hk
 simp only[Bool.and_eq_true,Bool.not_eq_true',beq_eq_false_iff_ne,ne_eq] at this
 obtain⟨⟨h1,h2⟩,h3⟩:=this
 refine⟨h1,h2,?_⟩
 cases ho:ops[k]? with
 | none=>rw[ho] at h3;cases h3
 | some o =>
  rw[ho] at h3
  obtain⟨e,he,hq⟩:=Array.any_eq_true'.1 h3
  simp only[Bool.and_eq_true,Bool.or_eq_true,beq_iff_eq,List.contains_iff_mem] at hq
  exact⟨o,rfl,e,he,hq.1,hq.2⟩
theorem adk {l:Array Bool} {k:Nat} (h:l.getD k true=false):l.getD k false=false:=by
 rcases Nat.lt_or_ge k l.size with h' | h'
 ·simp[h'] at h ⊢;exact h
 ·simp[Array.getElem?_eq_none h'] at h
theorem am9 {l:Array Bool} {i j:Nat} {cs:List Nat} (h:ah0 md ops l i cs=true) (hi:l.getD i true=false) (hj:j∈Region.ready md ops l):j ∉ cs:=by
 intro hm
 obtain⟨_,_,o,ho,e,he,hb,hor⟩:=ag2 h hm
 obtain⟨_,o',ho',hall⟩:=mem_ready.1 hj
 rw[ho] at ho'
 cases ho'
 have h1:=hall e he hb
 rcases hor with q | q
 ·rw[q,adk hi] at h1;cases h1
 ·rw[adk (ag2 h q).1] at h1;cases h1
theorem aoi {l:Array Bool} {i j:Nat} {cs:List Nat} (h:ah0 md ops l i cs=true) (hj:j ∉ cs):ah0 md ops (l.setIfInBounds j true) i cs=true:=by
 apply List.all_eq_true.2
 intro k hk
 have:=List.all_eq_true.1 h k hk
 rw[getD_set_ne true (show j≠k from fun e=>hj (by rw[e];exact hk))]
 exact this
theorem alz {i:Nat} {oi:Oper} {v:Value} {cs:List Nat} (hi:ops[i]?=some oi) (hsel:∀(j:Nat) (o:Oper) ks b,ops[j]?=some o→o.op≠.select ks b) (hc:c∈cs)
  (hQ:∀p a w,Q (.panic p) (a.put oi.dst v) w→Q (.panic p) a w):∀(n:Nat) {l:Array Bool} {a:Act} {w:World},
   (∀j oj,ops[j]?=some oj→j≠i→l.getD j true=false→(∀e∈oj.after,Region.binds md e=true→e.on≠i)→oi.apart ops oj=true) →
   ah0 md ops l i cs=true→i∈Region.ready md ops l→YieldsIf P ops S oi v a→S w →
   acs P md ops Q S c n (l.setIfInBounds i true) (a.put oi.dst v) w→acs P md ops Q S c (n+1) l a w:=by
 intro n
 induction n with
 | zero =>
  intro l a w _ hw hr hy hS H
  refine⟨fun h0=>(by rw[h0] at hr;cases hr),fun j hj=>?_⟩
  by_cases e:j=i
  ·subst e;exact hy.wpOp hi hS ⟨fun _=>hS,H⟩
  ·have:=ready_mono hj e
   rw[H.1] at this
   cases this
 | succ n ih =>
  intro l a w hfree hw hr hy hS H
  refine⟨fun h0=>(by rw[h0] at hr;cases hr),fun j hj=>?_⟩
  by_cases e:j=i
  ·subst e;exact hy.wpOp hi hS ⟨fun _=>hS,H⟩
  ·have hil:=(mem_ready.1 hr).1
   have hjc:=am9 hw hil hj
   have h1:=H.2 j (ready_mono hj e)
   obtain⟨hjun,oj,hoj,hall⟩:=mem_ready.1 hj
   have hnot:∀e∈oj.after,Region.binds md e=true→e.on≠i:=fun e he hb heq=>by
    have q:=hall e he hb
    rw[heq,adk hil] at q
    cases q
   have h2:=wpOp_putIf hoj (hfree j oj hoj e hjun hnot) (fun ks b=>hsel i oi ks b hi) (fun ks b=>hsel j oj ks b hoj) hQ hy h1
   have hfree':∀k ok,ops[k]?=some ok→k≠i→(l.setIfInBounds j true).getD k true=false→(∀e∈ok.after,Region.binds md e=true→e.on≠i)→oi.apart ops ok=true:=fun k ok hk hki hun hno=>by
    refine hfree k ok hk hki ?_ hno
    by_cases q:j=k
    ·subst q;exact hjun
    ·rw[getD_set_ne true q] at hun;exact hun
   have hcj:j≠c:=fun q=>hjc (q ▸ hc)
   have hci:i≠c:=fun q=>(ag2 hw hc).2.1 q.symm
   have hcf:(((l.setIfInBounds i true).setIfInBounds j true).getD c true)=false:=by
    rw[getD_set_ne true hcj,getD_set_ne true hci]
    exact(ag2 hw hc).1
   refine wpOp_mono (fun a' w' h3=>⟨fun _=>h3.2.1 hcf,ih hfree' (aoi hw hjc) (ready_mono hr (Ne.symm e)) h3.1 (h3.2.1 hcf) ?_⟩) h2
   rw[Array.setIfInBounds_comm _ _ e]
   exact h3.2.2
theorem aal {i:Nat} {oi:Oper} {v:Value} {cs:List Nat} {n:Nat} {l:Array Bool} {a:Act} {w:World} (hi:ops[i]?=some oi) (hs:Region.noSelect ops=true) (hf:Region.free md ops l i=true) (hr:(Region.ready md ops l).contains i=true)
  (hc:cs.contains c=true) (hw:ah0 md ops l i cs=true) (hQ:∀p a w,Q (.panic p) (a.put oi.dst v) w→Q (.panic p) a w) (hy:YieldsIf P ops S oi v a) (hS:S w)
  (h:acs P md ops Q S c n (l.setIfInBounds i true) (a.put oi.dst v) w):acs P md ops Q S c (n+1) l a w :=
 alz hi (Region.noSelect_spec hs) (by simpa using hc) hQ n (Region.free_spec hi hf) hw (by simpa using hr) hy hS h
theorem ana {i:Nat} {oi:Oper} {v:Value} (hi:ops[i]?=some oi) (hsel:∀(j:Nat) (o:Oper) ks b,ops[j]?=some o→o.op≠.select ks b) (hic:i≠c)
  (hQ:∀p a w,Q (.panic p) (a.put oi.dst v) w→Q (.panic p) a w):∀(n:Nat) {l:Array Bool} {a:Act} {w:World},
   (∀j oj,ops[j]?=some oj→j≠i→l.getD j true=false→(∀e∈oj.after,Region.binds md e=true→e.on≠i)→oi.apart ops oj=true) →
   i∈Region.ready md ops l→YieldsIf P ops (fun _=>True) oi v a→(l.getD c true=false→S w) →
   acs P md ops Q S c n (l.setIfInBounds i true) (a.put oi.dst v) w→acs P md ops Q S c (n+1) l a w:=by
 intro n
 induction n with
 | zero =>
  intro l a w _ hr hy hS H
  refine⟨fun h0=>(by rw[h0] at hr;cases hr),fun j hj=>?_⟩
  by_cases e:j=i
  ·subst e;exact hy.wpOp hi trivial ⟨fun q=>hS (by rw[getD_set_ne true hic] at q;exact q),H⟩
  ·have:=ready_mono hj e
   rw[H.1] at this
   cases this
 | succ n ih =>
  intro l a w hfree hr hy hS H
  refine⟨fun h0=>(by rw[h0] at hr;cases hr),fun j hj=>?_⟩
  by_cases e:j=i
  ·subst e;exact hy.wpOp hi trivial ⟨fun q=>hS (by rw[getD_set_ne true hic] at q;exact q),H⟩
  ·have hil:=(mem_ready.1 hr).1
   have h1:=H.2 j (ready_mono hj e)
   obtain⟨hjun,oj,hoj,hall⟩:=mem_ready.1 hj
   have hnot:∀e∈oj.after,Region.binds md e=true→e.on≠i:=fun e he hb heq=>by
    have q:=hall e he hb
    rw[heq,adk hil] at q
    cases q
   have h2:=wpOp_putIf hoj (hfree j oj hoj e hjun hnot) (fun ks b=>hsel i oi ks b hi) (fun ks b=>hsel j oj ks b hoj) hQ hy h1
   have hfree':∀k ok,ops[k]?=some ok→k≠i→(l.setIfInBounds j true).getD k true=false→(∀e∈ok.after,Region.binds md e=true→e.on≠i)→oi.apart ops ok=true:=fun k ok hk hki hun hno=>by
    refine hfree k ok hk hki ?_ hno
    by_cases q:j=k
    ·subst q;exact hjun
    ·rw[getD_set_ne true q] at hun;exact hun
   have hcf:(((l.setIfInBounds i true).setIfInBounds j true).getD c true)=((l.setIfInBounds j true).getD c true):=by
    rw[Array.setIfInBounds_comm _ _ (Ne.symm e),getD_set_ne true hic]
   refine wpOp_mono (fun a' w' h3=>⟨fun q=>h3.2.1 (hcf.trans q),ih hfree' (ready_mono hr (Ne.symm e)) h3.1 (fun q=>h3.2.1 (hcf.trans q)) ?_⟩) h2
   rw[Array.setIfInBounds_comm _ _ e]
   exact h3.2.2
theorem zn {i:Nat} {oi:Oper} {v:Value} {n:Nat} {l:Array Bool} {a:Act} {w:World} (hi:ops[i]?=some oi) (hs:Region.noSelect ops=true) (hf:Region.free md ops l i=true) (hr:(Region.ready md ops l).contains i=true)
  (hic:(i==c)=false) (hQ:∀p a w,Q (.panic p) (a.put oi.dst v) w→Q (.panic p) a w) (hy:YieldsIf P ops (fun _=>True) oi v a) (hS:S w)
  (h:acs P md ops Q S c n (l.setIfInBounds i true) (a.put oi.dst v) w):acs P md ops Q S c (n+1) l a w :=
 ana hi (Region.noSelect_spec hs) (by simpa using hic) hQ n (Region.free_spec hi hf) (by simpa using hr) hy (fun _=>hS) h
theorem abq {i:Nat} {o:Oper} {n:Nat} {l:Array Bool} {a:Act} {w:World} (hr:Region.ready md ops l=[i]) (ho:ops[i]?=some o)
  (h:∀K:Act→World→Prop,Go.Shut (∀a w,S w→(S w→acs P md ops Q S c n (l.setIfInBounds i true) a w)→K a w)→if Region.wanted o (yielded ops a.tmps)=true then Oper.wp P o a w K Q else K (a.put o.dst undef) w):acs P md ops Q S c (n+1) l a w:=by
 refine⟨fun h0=>(by rw[hr] at h0;cases h0),fun j hj=>?_⟩
 rw[hr] at hj
 obtain rfl:=List.mem_singleton.1 hj
 exact wpOp_step ho (fun K hK=>h K (fun a w hS hW=>hK a w ⟨fun _=>hS,hW hS⟩))
theorem af3 {i j:Nat} {o p:Oper} {n:Nat} {l:Array Bool} {a:Act} {w:World} (hr:Region.ready md ops l=[i,j]) (ho:ops[i]?=some o) (hp:ops[j]?=some p)
  (h:∀K:Act→World→Prop,Go.Shut (∀a w,S w→(S w→acs P md ops Q S c n (l.setIfInBounds i true) a w)→K a w)→if Region.wanted o (yielded ops a.tmps)=true then Oper.wp P o a w K Q else K (a.put o.dst undef) w)
  (h':∀K:Act→World→Prop,Go.Shut (∀a w,S w→(S w→acs P md ops Q S c n (l.setIfInBounds j true) a w)→K a w)→if Region.wanted p (yielded ops a.tmps)=true then Oper.wp P p a w K Q else K (a.put p.dst undef) w):acs P md ops Q S c (n+1) l a w:=by
 refine⟨fun h0=>(by rw[hr] at h0;cases h0),fun k hk=>?_⟩
 rw[hr] at hk
 rcases List.mem_cons.1 hk with rfl | hk
 ·exact wpOp_step ho (fun K hK=>h K (fun a w hS hW=>hK a w ⟨fun _=>hS,hW hS⟩))
 ·obtain rfl:=List.mem_singleton.1 hk
  exact wpOp_step hp (fun K hK=>h' K (fun a w hS hW=>hK a w ⟨fun _=>hS,hW hS⟩))
theorem aoj {n:Nat} {l:Array Bool} {a:Act} {w:World} (hl:l.getD c true=true):wpAny P md ops Q n l a w→acs P md ops Q S c n l a w:=by
 induction n generalizing l a w with
 | zero=>exact id
 | succ n ih =>
  intro h
  refine⟨h.1,fun j hj=>wpOp_mono (fun a' w' k=>?_) (h.2 j hj)⟩
  have hl':(l.setIfInBounds j true).getD c true=true:=by
   by_cases q:j=c
   ·subst q
    rcases Nat.lt_or_ge j l.size with h' | h'
    ·simp[h']
    ·simp
   ·rw[getD_set_ne true q];exact hl
  exact⟨fun e=>by (rw[hl'] at e;cases e),ih hl' k⟩
theorem acp {o:Oper} {n:Nat} {l:Array Bool} {a:Act} {w:World} (hr:Region.ready md ops l=[c]) (ho:ops[c]?=some o)
  (h:∀K:Act→World→Prop,Go.Shut (∀a w,wpAny P md ops Q n (l.setIfInBounds c true) a w→K a w)→if Region.wanted o (yielded ops a.tmps)=true then Oper.wp P o a w K Q else K (a.put o.dst undef) w):acs P md ops Q S c (n+1) l a w:=by
 refine⟨fun h0=>(by rw[hr] at h0;cases h0),fun j hj=>?_⟩
 rw[hr] at hj
 obtain rfl:=List.mem_singleton.1 hj
 have hl:(l.setIfInBounds j true).getD j true=true:=by
  rcases Nat.lt_or_ge j l.size with h' | h'
  ·simp[h']
  ·simp
 exact wpOp_step ho (fun K hK=>h K (fun a w hW=>hK a w ⟨fun e=>by (rw[hl] at e;cases e),aoj hl hW⟩))
theorem ad7 {i:Nat} {o:Oper} {n:Nat} {l:Array Bool} {a:Act} {w:World} (hr:Region.ready md ops l=[i]) (ho:ops[i]?=some o)
  (h:∀K:Act→World→Prop,Go.Shut (∀a w,wpAny P md ops Q n (l.setIfInBounds i true) a w→K a w)→if Region.wanted o (yielded ops a.tmps)=true then Oper.wp P o a w K Q else K (a.put o.dst undef) w):wpAny P md ops Q (n+1) l a w:=by
 refine⟨fun h0=>(by rw[hr] at h0;cases h0),fun j hj=>?_⟩
 rw[hr] at hj
 obtain rfl:=List.mem_singleton.1 hj
 exact wpOp_step ho (fun K hK=>h K hK)
theorem ace {id:Nat} {a:Act} {w:World} (c:Nat) (hm:P.follows .mixedOrders=true) (hS:S w.drew)
  (h:S w.drew→acs P .any ops Q S c ops.size (Array.replicate ops.size false) a w.drew):(Code.region id ops true).wp P Q a w :=
 wp_region_any hm (akf _ (h hS))
end
end
section
open Go.RowKit Go.Maps
def newB (tag:Int) (sz:Nat):HO:=⟨4,tag,0,aay sz,false⟩
def aok (P:PHp) (tag:Int) (sz:Nat):PHp:={ P with Y:=P.Y++[newB tag sz] }
def AllocB (B:Nat) (w:World) (hp mb:Nat) (P:PHp) (D:DataW Unit) (n:Nat) (tag:Int) (sz:Nat) (vyo vyf voo vof vn:Value) (w':World):Prop :=
 ∃vo vf,HpG B w' hp mb (aok P tag sz) D n vo vf voo vof vn ∧
  (∀k,k<w.heap.size→k≠hp→vyo.ownBlock≠some k→vyf.ownBlock≠some k→w'.heap[k]?=w.heap[k]?)∧(vo.ownBlock=vyo.ownBlock∨∀j,vo.ownBlock=some j→w.heap.size≤j)∧(vf.ownBlock=vyf.ownBlock∨∀j,vf.ownBlock=some j→w.heap.size≤j) ∧
  w.heap.size≤w'.heap.size∧w'.os=w.os∧w'.tape=w.tape∧w'.output=w.output
theorem aol {B:Nat} {w:World} {hp mb:Nat} {P:PHp} {D:DataW Unit} {n:Nat} {vyo vyf voo vof vn:Value} (h:HpG B w hp mb P D n vyo vyf voo vof vn) {tag:Int} {sz:Nat} (hsz:sz≤1000) (hroom:(P.Y.length+(zg P.Y).length:Int)+1+sz≤P.ry) (hy:P.Y.length≤1000000) (c1:P.Y.length+1+P.O.length+1≤5000000) (c2:(zg P.Y).length+sz+(zg P.O).length≤10000000) (c3:P.fo+2*P.O.length+2*(P.Y.length+1+P.O.length)+2≤4611686018427387904) (c4:P.fy+2*(P.Y.length+1)≤4611686018427387904) :
  Calls prog 7 #[.pointer (some ⟨hp,0,none⟩),.int .i64 4,.int .i64 tag,.int .i64 sz] w fun e w'=>e=.returned (.tuple #[.int .i64 (P.fy+2*P.Y.length),.nilIface])∧AllocB B w hp mb P D n tag sz vyo vyf voo vof vn w':=by
 have H:=zc h
 have hfy:=h.few.y
 have n1:¬(sz:Int)<0:=by omega
 have n2:¬(1000:Int)<(sz:Int):=by omega
 obtain⟨cm,hcm⟩:∃cm:Nat,P.Y.length+(zg P.Y).length=cm:=⟨_,rfl⟩
 have HCM:Hid (∀X,Below w.heap.size w X→Calls prog 15 #[.pointer (some ⟨hp,0,none⟩)] X fun e w'=>e=.returned (.int .i64 (cm:Int))∧Below X.heap.size X w'):=fun X hX=>by
  have:=abl ((h.at'.young h.few).keep hX) (by omega)
  rw[hcm] at this
  exact this
 have hcm2:(cm:Int)+1+sz≤P.ry:=by omega
 have hcm3:cm≤11000000:=by omega
 have w1:IntKind.i64.wrap ((cm:Int)+1)=(cm:Int)+1:=aav (by omega) (by omega)
 have w2:IntKind.i64.wrap ((cm:Int)+1+(sz:Int))=(cm:Int)+1+(sz:Int):=aav (by omega) (by omega)
 have n3:¬P.ry<(cm:Int)+1+(sz:Int):=by omega
 clear h hcm hroom
 go_enter func7,ntmps7
 go_wp2_with fail
 have HD:=zc ((za H).keep (Below.drew (Below.refl _ _)))
 refine wp_region_held_drew (S:=fun w'=>w'.cell? ⟨hp,6,none⟩=some (.int .i64 P.ry)) (by kernel_rfl) (zd (za HD).at'.blk 6) (fun hHeld=>?_)
 refine wpAnyH_take (i:=0) (oi:={ dst:=some 27,op:=_,type:=_,pos:=_,after:=_,guard:=_ }) (v:=?_) rfl (by kernel_rfl) (by kernel_rfl) (by kernel_rfl) (fun _ _ _ h=>h) (Or.inl ⟨by rfl,?_⟩) (by assumption) ?_
 case refine_2 =>
  intro w hSw
  try dsimp only at hSw
  go_simp
  try with_reducible rfl
 simp only[Act.put,sA,sB,sC]
 refine wpAnyH_take (i:=1) (oi:={ dst:=some 28,op:=_,type:=_,pos:=_,after:=_,guard:=_ }) (v:=?_) rfl (by kernel_rfl) (by kernel_rfl) (by kernel_rfl) (fun _ _ _ h=>h) (Or.inl ⟨by rfl,?_⟩) (by assumption) ?_
 case refine_2 =>
  intro w hSw
  try dsimp only at hSw
  go_simp
  try with_reducible rfl
 simp only[Act.put,sA,sB,sC]
 refine wpAnyH_take (i:=2) (oi:={ dst:=some 29,op:=_,type:=_,pos:=_,after:=_,guard:=_ }) (v:=?_) rfl (by kernel_rfl) (by kernel_rfl) (by kernel_rfl) (fun _ _ _ h=>h) (Or.inl ⟨by rfl,?_⟩) (by assumption) ?_
 case refine_2 =>
  intro w hSw
  try dsimp only at hSw
  go_simp
  try with_reducible rfl
 simp only[Act.put,sA,sB,sC]
 refine wpAnyH_take (i:=3) (oi:={ dst:=some 30,op:=_,type:=_,pos:=_,after:=_,guard:=_ }) (v:=?_) rfl (by kernel_rfl) (by kernel_rfl) (by kernel_rfl) (fun _ _ _ h=>h) (Or.inl ⟨by rfl,?_⟩) (by assumption) ?_
 case refine_2 =>
  intro w hSw
  try dsimp only at hSw
  go_simp
  try with_reducible rfl
 simp only[Act.put,sA,sB,sC]
 refine wpAnyH_take (i:=4) (oi:={ dst:=some 31,op:=_,type:=_,pos:=_,after:=_,guard:=_ }) (v:=?_) rfl (by kernel_rfl) (by kernel_rfl) (by kernel_rfl) (fun _ _ _ h=>h) (Or.inl ⟨by rfl,?_⟩) (by assumption) ?_
 case refine_2 =>
  intro w hSw
  try dsimp only at hSw
  go_simp
  try with_reducible rfl
 simp only[Act.put,sA,sB,sC]
 refine wpAnyH_take (i:=5) (oi:={ dst:=some 32,op:=_,type:=_,pos:=_,after:=_,guard:=_ }) (v:=?_) rfl (by kernel_rfl) (by kernel_rfl) (by kernel_rfl) (fun _ _ _ h=>h) (Or.inl ⟨by rfl,?_⟩) (by assumption) ?_
 case refine_2 =>
  intro w hSw
  try dsimp only at hSw
  go_simp
  try with_reducible rfl
 simp only[Act.put,sA,sB,sC]
 refine wpAnyH_take (i:=8) (oi:={ dst:=some 35,op:=_,type:=_,pos:=_,after:=_,guard:=_ }) (v:=?_) rfl (by kernel_rfl) (by kernel_rfl) (by kernel_rfl) (fun _ _ _ h=>h) (Or.inl ⟨by rfl,?_⟩) (by assumption) ?_
 case refine_2 =>
  intro w hSw
  try dsimp only at hSw
  go_simp
  try with_reducible rfl
 simp only[Act.put,sA,sB,sC]
 refine wpAnyH_take (i:=10) (oi:={ dst:=some 37,op:=_,type:=_,pos:=_,after:=_,guard:=_ }) (v:=?_) rfl (by kernel_rfl) (by kernel_rfl) (by kernel_rfl) (fun _ _ _ h=>h) (Or.inl ⟨by rfl,?_⟩) (by assumption) ?_
 case refine_2 =>
  intro w hSw
  try dsimp only at hSw
  go_simp
  try with_reducible rfl
 simp only[Act.put,sA,sB,sC]
 refine wpAnyH_take (i:=11) (oi:={ dst:=some 38,op:=_,type:=_,pos:=_,after:=_,guard:=_ }) (v:=?_) rfl (by kernel_rfl) (by kernel_rfl) (by kernel_rfl) (fun _ _ _ h=>h) (Or.inl ⟨by rfl,?_⟩) (by assumption) ?_
 case refine_2 =>
  intro w hSw
  try dsimp only at hSw
  go_simp
  try with_reducible rfl
 simp only[Act.put,sA,sB,sC]
 refine wpAnyH_take (i:=12) (oi:={ dst:=some 39,op:=_,type:=_,pos:=_,after:=_,guard:=_ }) (v:=?_) rfl (by kernel_rfl) (by kernel_rfl) (by kernel_rfl) (fun _ _ _ h=>h) (Or.inl ⟨by rfl,?_⟩) (by assumption) ?_
 case refine_2 =>
  intro w hSw
  try dsimp only at hSw
  go_simp
  try with_reducible rfl
 simp only[Act.put,sA,sB,sC]
 refine wpAnyH_take (i:=13) (oi:={ dst:=some 40,op:=_,type:=_,pos:=_,after:=_,guard:=_ }) (v:=?_) rfl (by kernel_rfl) (by kernel_rfl) (by kernel_rfl) (fun _ _ _ h=>h) (Or.inl ⟨by rfl,?_⟩) (by assumption) ?_
 case refine_2 =>
  intro w hSw
  try dsimp only at hSw
  go_simp
  try with_reducible rfl
 simp only[Act.put,sA,sB,sC]
 refine wpAnyH_ready (rs:=[6]) (by kernel_rfl) (by simp) ?_
 refine AllReadyH.cons (o:={ dst:=some 33,op:=_,type:=_,pos:=_,after:=_,guard:=_ }) rfl (fun K hK=>?_) AllReadyH.nil
 go_simp
 refine(za HCM _ (Below.drew (Below.refl _ _))).mono ?_
 rintro e w3 ⟨rfl,hb1⟩
 have HB1:=zc ((Below.drew (Below.refl w.heap.size w)).trans hb1)
 have H1:=zc ((za H).keep (za HB1))
 clear hb1
 refine hK.out _ _ (zd (za H1).at'.blk 6) (fun hHeld1=>?_)
 clear hK K
 refine wpAnyH_take (i:=7) (oi:={ dst:=some 34,op:=_,type:=_,pos:=_,after:=_,guard:=_ }) (v:=?_) rfl (by kernel_rfl) (by kernel_rfl) (by kernel_rfl) (fun _ _ _ h=>h) (Or.inl ⟨by rfl,?_⟩) (by assumption) ?_
 case refine_2 =>
  intro w hSw
  try dsimp only at hSw
  go_simp
  try with_reducible rfl
 simp only[Act.put,sA,sB,sC]
 refine wpAnyH_take (i:=9) (oi:={ dst:=some 36,op:=_,type:=_,pos:=_,after:=_,guard:=_ }) (v:=?_) rfl (by kernel_rfl) (by kernel_rfl) (by kernel_rfl) (fun _ _ _ h=>h) (Or.inl ⟨by rfl,?_⟩) (by assumption) ?_
 case refine_2 =>
  intro w hSw
  try dsimp only at hSw
  go_simp
  try with_reducible rfl
 simp only[Act.put,sA,sB,sC]
 refine wpAnyH_take (i:=14) (oi:={ dst:=some 41,op:=_,type:=_,pos:=_,after:=_,guard:=_ }) (v:=?_) rfl (by kernel_rfl) (by kernel_rfl) (by kernel_rfl) (fun _ _ _ h=>h) (Or.inl ⟨by rfl,?_⟩) (by assumption) ?_
 case refine_2 =>
  intro w hSw
  try dsimp only at hSw
  go_simp
  try with_reducible rfl
 simp only[Act.put,sA,sB,sC]
 refine wpAnyH_take (i:=15) (oi:={ dst:=some 42,op:=_,type:=_,pos:=_,after:=_,guard:=_ }) (v:=?_) rfl (by kernel_rfl) (by kernel_rfl) (by kernel_rfl) (fun _ _ _ h=>h) (Or.inl ⟨by rfl,?_⟩) (by assumption) ?_
 case refine_2 =>
  intro w hSw
  try dsimp only at hSw
  go_simp
  try with_reducible rfl
 simp only[Act.put,sA,sB,sC]
 refine wpAnyH_done (by kernel_rfl) ?_ _
 have hh1:=hlt (za H1).at'.blk
 go_wp2_with fail
 have hb2:Below w3.heap.size w3 (w3.alloc (.cells #[.int .i64 4,.int .i64 tag,.int .i64 0,.int .i64 0,.int .i64 sz,.bool false] 61)):=(Below.refl _ _).alloc (Nat.le_refl _) _
 have H2:=zc ((za H1).keep hb2)
 have HO2:=zc (ab2 w3 (.cells #[.int .i64 4,.int .i64 tag,.int .i64 0,.int .i64 0,.int .i64 sz,.bool false] 61) rfl)
 have HS2:Hid (w3.heap.size<(w3.alloc (.cells #[.int .i64 4,.int .i64 tag,.int .i64 0,.int .i64 0,.int .i64 sz,.bool false] 61)).heap.size):=hlt (za HO2)
 have HK2:Hid (∀k,k<w3.heap.size→(w3.alloc (.cells #[.int .i64 4,.int .i64 tag,.int .i64 0,.int .i64 0,.int .i64 sz,.bool false] 61)).heap[k]?=w3.heap[k]?):=fun k hk=>hb2.block k hk
 have HT2:Hid ((w3.alloc (.cells #[.int .i64 4,.int .i64 tag,.int .i64 0,.int .i64 0,.int .i64 sz,.bool false] 61)).os=w3.os∧(w3.alloc (.cells #[.int .i64 4,.int .i64 tag,.int .i64 0,.int .i64 0,.int .i64 sz,.bool false] 61)).tape=w3.tape∧(w3.alloc (.cells #[.int .i64 4,.int .i64 tag,.int .i64 0,.int .i64 0,.int .i64 sz,.bool false] 61)).output=w3.output):=⟨hb2.os,hb2.tape,hb2.output⟩
 clear hb2
 generalize w3.alloc (.cells #[.int .i64 4,.int .i64 tag,.int .i64 0,.int .i64 0,.int .i64 sz,.bool false] 61)=W at *
 have HO3:=zc (show W.drew.heap[w3.heap.size]?=_ from za HO2)
 refine wp_region_held_drew (S:=(fun w'=>w'.cell? ⟨w3.heap.size,0,none⟩=some (.int .i64 4)∧w'.cell? ⟨w3.heap.size,1,none⟩=some (.int .i64 tag)∧w'.cell? ⟨w3.heap.size,2,none⟩=some (.int .i64 0)∧w'.cell? ⟨w3.heap.size,3,none⟩=some (.int .i64 0)∧w'.cell? ⟨w3.heap.size,4,none⟩=some (.int .i64 sz)∧w'.cell? ⟨w3.heap.size,5,none⟩=some (.bool false))) (by kernel_rfl) ⟨zd (za HO3) 0,zd (za HO3) 1,zd (za HO3) 2,zd (za HO3) 3,zd (za HO3) 4,zd (za HO3) 5⟩ (fun hHeld2=>?_)
 refine wpAnyH_take (i:=0) (oi:={ dst:=some 62,op:=_,type:=_,pos:=_,after:=_,guard:=_ }) (v:=?_) rfl (by kernel_rfl) (by kernel_rfl) (by kernel_rfl) (fun _ _ _ h=>h) (Or.inl ⟨by rfl,?_⟩) (by assumption) ?_
 case refine_2 =>
  intro w hSw
  try dsimp only at hSw
  go_simp
  try with_reducible rfl
 simp only[Act.put,sA,sB,sC]
 refine wpAnyH_take (i:=1) (oi:={ dst:=some 63,op:=_,type:=_,pos:=_,after:=_,guard:=_ }) (v:=?_) rfl (by kernel_rfl) (by kernel_rfl) (by kernel_rfl) (fun _ _ _ h=>h) (Or.inl ⟨by rfl,?_⟩) (by assumption) ?_
 case refine_2 =>
  intro w hSw
  try dsimp only at hSw
  go_simp
  try with_reducible rfl
 simp only[Act.put,sA,sB,sC]
 refine wpAnyH_take (i:=2) (oi:={ dst:=some 64,op:=_,type:=_,pos:=_,after:=_,guard:=_ }) (v:=?_) rfl (by kernel_rfl) (by kernel_rfl) (by kernel_rfl) (fun _ _ _ h=>h) (Or.inl ⟨by rfl,?_⟩) (by assumption) ?_
 case refine_2 =>
  intro w hSw
  try dsimp only at hSw
  go_simp
  try with_reducible rfl
 simp only[Act.put,sA,sB,sC]
 refine wpAnyH_take (i:=3) (oi:={ dst:=some 65,op:=_,type:=_,pos:=_,after:=_,guard:=_ }) (v:=?_) rfl (by kernel_rfl) (by kernel_rfl) (by kernel_rfl) (fun _ _ _ h=>h) (Or.inl ⟨by rfl,?_⟩) (by assumption) ?_
 case refine_2 =>
  intro w hSw
  try dsimp only at hSw
  go_simp
  try with_reducible rfl
 simp only[Act.put,sA,sB,sC]
 refine wpAnyH_take (i:=4) (oi:={ dst:=some 66,op:=_,type:=_,pos:=_,after:=_,guard:=_ }) (v:=?_) rfl (by kernel_rfl) (by kernel_rfl) (by kernel_rfl) (fun _ _ _ h=>h) (Or.inl ⟨by rfl,?_⟩) (by assumption) ?_
 case refine_2 =>
  intro w hSw
  try dsimp only at hSw
  go_simp
  try with_reducible rfl
 simp only[Act.put,sA,sB,sC]
 refine wpAnyH_ready (rs:=[5]) (by kernel_rfl) (by simp) ?_
 refine AllReadyH.cons (o:={ dst:=some 67,op:=_,type:=_,pos:=_,after:=_,guard:=_ }) rfl (fun K hK=>?_) AllReadyH.nil
 have mk2:=ae3 hsz
 go_simp
 clear mk2
 have hb3:Below W.heap.size W (W.drew.alloc (.cells (aa9 sz) 69)):=(Below.drew (Below.refl _ _)).alloc (Nat.le_refl _) _
 have H3:=zc ((za H2).keep hb3)
 have HO4:=zc ((hb3.block w3.heap.size (za HS2)).trans (za HO2))
 have HV3:Hid ((W.drew.alloc (.cells (aa9 sz) 69)).heap[W.heap.size]?=some (.cells (aa9 sz) 69 (0,0))):=ab2 W.drew _ rfl
 have HB3:=zc hb3
 clear hb3
 refine hK.out _ _ ⟨zd (za HO4) 0,zd (za HO4) 1,zd (za HO4) 2,zd (za HO4) 3,zd (za HO4) 4,zd (za HO4) 5⟩ (fun hHeld3=>?_)
 clear hK K
 try simp only[World.heap_drew] at *
 refine wpAnyH_ready (rs:=[6]) (by kernel_rfl) (by simp) ?_
 refine AllReadyH.cons (o:={ dst:=some 68,op:=_,type:=_,pos:=_,after:=_,guard:=_ }) rfl (fun K hK=>?_) AllReadyH.nil
 go_simp
 refine(afp (za H3).ptb (za H3).hB (newB tag sz) rfl rfl (za HV3) (za H3).small.y0 (by show P.fy+2*(P.Y.length:Int)+2≤_;omega) (by show (zg P.Y).length+sz≤_;omega) (by show P.Y.length+1≤_;omega) (by simp[zx])).mono ?_
 rintro e w4 ⟨rfl,vo',vf',hP4,hF4,a4,b4⟩
 have H4:=zc ((za H3).added hP4 hF4 a4 b4 c1 (by show (zg P.Y).length+(aay sz).length+(zg P.O).length≤_;simpa [aay] using c2) c3 c4 ⟨⟨by show _≤(0:Int);decide,by show (0:Int)≤_;decide⟩,fun v hv=>by
  have:v=acv:=by
   have hv:v∈aay sz:=hv
   unfold aay at hv
   exact List.eq_of_mem_replicate hv
  rw[this]
  exact⟨by decide,by decide⟩⟩)
 have HO5:=zc ((hF4.block w3.heap.size (Nat.lt_of_lt_of_le (za HS2) (za HB3).size) (by omega) (fun e=>by have:=(zu (za H1).at'.yo e).lt;omega) (fun e=>by have:=(zu (za H1).at'.yf e).lt;omega)).trans (za HO4))
 have HF4:=zc hF4
 have HA4:=zc a4
 have HB4:=zc b4
 clear hP4 hF4 a4 b4
 refine hK.out _ _ ⟨zd (za HO5) 0,zd (za HO5) 1,zd (za HO5) 2,zd (za HO5) 3,zd (za HO5) 4,zd (za HO5) 5⟩ (fun hHeld4=>?_)
 clear hK K
 refine wpAnyH_take (i:=7) (oi:={ dst:=some 11,op:=_,type:=_,pos:=_,after:=_,guard:=_ }) (v:=?_) rfl (by kernel_rfl) (by kernel_rfl) (by kernel_rfl) (fun _ _ _ h=>h) (Or.inl ⟨by rfl,?_⟩) (by assumption) ?_
 case refine_2 =>
  intro w hSw
  try dsimp only at hSw
  go_simp
  try with_reducible rfl
 simp only[Act.put,sA,sB,sC]
 refine wpAnyH_done (by kernel_rfl) ?_ _
 have g2:w4.cell? ⟨w3.heap.size,2,none⟩=some (.int .i64 0):=zd (za HO5) 2
 clear hHeld hHeld1 hHeld2 hHeld3 hHeld4
 go_wp2_with fail
 go_ret2
 have z1:=(za HB1).size
 have z2:=za HS2
 have z3:=(za HB3).size
 have z4:=(za HF4).size
 have z6:=hlt (za H1).at'.blk
 refine⟨rfl,vo',vf',za H4,fun k hk h1 h3 h4=>?_,?_,?_,by omega,?_,?_,?_⟩
 ·rw[(za HF4).block k (by omega) h1 h3 h4,(za HB3).block k (by omega),za HK2 k (by omega)]
  exact(za HB1).block k hk
 ·exact(za HA4).imp id (fun q j hj=>by have:=q j hj;omega)
 ·exact(za HB4).imp id (fun q j hj=>by have:=q j hj;omega)
 ·exact(za HF4).os.trans ((za HB3).os.trans ((za HT2).1.trans (za HB1).os))
 ·exact(za HF4).tape.trans ((za HB3).tape.trans ((za HT2).2.1.trans (za HB1).tape))
 ·exact(za HF4).output.trans ((za HB3).output.trans ((za HT2).2.2.trans (za HB1).output))
end
section
open Go.RowKit Go.Maps
theorem ai4 {B:Nat} {w:World} {hp mb:Nat} {P:PHp} {D:DataW Unit} {n:Nat} {vyo vyf voo vof vn:Value} (h:HpG B w hp mb P D n vyo vyf voo vof vn) {kd tag:Int} {sz:Nat} (hk1:1≤kd) (hk2:kd≤4) (hsz:sz≤1000) (hroom:P.ry<(P.Y.length+(zg P.Y).length:Int)+1+sz) :
  Calls prog 7 #[.pointer (some ⟨hp,0,none⟩),.int .i64 kd,.int .i64 tag,.int .i64 sz] w fun e w'=>e=.returned (.tuple #[.int .i64 0,.iface 29 (.int .i64 12)])∧Below w.heap.size w w':=by
 have H:=zc h
 have hfy:=h.few.y
 have c1:=h.cnt
 have m1:¬kd<1:=by omega
 have m2:¬4<kd:=by omega
 have n1:¬(sz:Int)<0:=by omega
 have n2:¬(1000:Int)<(sz:Int):=by omega
 obtain⟨cm,hcm⟩:∃cm:Nat,P.Y.length+(zg P.Y).length=cm:=⟨_,rfl⟩
 have HCM:Hid (∀X,Below w.heap.size w X→Calls prog 15 #[.pointer (some ⟨hp,0,none⟩)] X fun e w'=>e=.returned (.int .i64 (cm:Int))∧Below X.heap.size X w'):=fun X hX=>by
  have:=abl ((h.at'.young h.few).keep hX) (by omega)
  rw[hcm] at this
  exact this
 have hcm2:P.ry<(cm:Int)+1+sz:=by omega
 have hcm3:cm≤20000000:=by omega
 have w1:IntKind.i64.wrap ((cm:Int)+1)=(cm:Int)+1:=aav (by omega) (by omega)
 have w2:IntKind.i64.wrap ((cm:Int)+1+(sz:Int))=(cm:Int)+1+(sz:Int):=aav (by omega) (by omega)
 have n3:P.ry<(cm:Int)+1+(sz:Int):=by omega
 clear h hcm hroom
 go_enter func7,ntmps7
 go_wp2_with fail
 have HD:=zc ((za H).keep (Below.drew (Below.refl _ _)))
 refine wp_region_held_drew (S:=fun w'=>w'.cell? ⟨hp,6,none⟩=some (.int .i64 P.ry)) (by kernel_rfl) (zd (za HD).at'.blk 6) (fun hHeld=>?_)
 refine wpAnyH_take (i:=0) (oi:={ dst:=some 27,op:=_,type:=_,pos:=_,after:=_,guard:=_ }) (v:=?_) rfl (by kernel_rfl) (by kernel_rfl) (by kernel_rfl) (fun _ _ _ h=>h) (Or.inl ⟨by rfl,?_⟩) (by assumption) ?_
 case refine_2 =>
  intro w hSw
  try dsimp only at hSw
  go_simp
  try with_reducible rfl
 simp only[Act.put,sA,sB,sC]
 refine wpAnyH_take (i:=1) (oi:={ dst:=some 28,op:=_,type:=_,pos:=_,after:=_,guard:=_ }) (v:=?_) rfl (by kernel_rfl) (by kernel_rfl) (by kernel_rfl) (fun _ _ _ h=>h) (Or.inl ⟨by rfl,?_⟩) (by assumption) ?_
 case refine_2 =>
  intro w hSw
  try dsimp only at hSw
  go_simp
  try with_reducible rfl
 simp only[Act.put,sA,sB,sC]
 refine wpAnyH_take (i:=2) (oi:={ dst:=some 29,op:=_,type:=_,pos:=_,after:=_,guard:=_ }) (v:=?_) rfl (by kernel_rfl) (by kernel_rfl) (by kernel_rfl) (fun _ _ _ h=>h) (Or.inl ⟨by rfl,?_⟩) (by assumption) ?_
 case refine_2 =>
  intro w hSw
  try dsimp only at hSw
  go_simp
  try with_reducible rfl
 simp only[Act.put,sA,sB,sC]
 refine wpAnyH_take (i:=3) (oi:={ dst:=some 30,op:=_,type:=_,pos:=_,after:=_,guard:=_ }) (v:=?_) rfl (by kernel_rfl) (by kernel_rfl) (by kernel_rfl) (fun _ _ _ h=>h) (Or.inl ⟨by rfl,?_⟩) (by assumption) ?_
 case refine_2 =>
  intro w hSw
  try dsimp only at hSw
  go_simp
  try with_reducible rfl
 simp only[Act.put,sA,sB,sC]
 refine wpAnyH_take (i:=4) (oi:={ dst:=some 31,op:=_,type:=_,pos:=_,after:=_,guard:=_ }) (v:=?_) rfl (by kernel_rfl) (by kernel_rfl) (by kernel_rfl) (fun _ _ _ h=>h) (Or.inl ⟨by rfl,?_⟩) (by assumption) ?_
 case refine_2 =>
  intro w hSw
  try dsimp only at hSw
  go_simp
  try with_reducible rfl
 simp only[Act.put,sA,sB,sC]
 refine wpAnyH_take (i:=5) (oi:={ dst:=some 32,op:=_,type:=_,pos:=_,after:=_,guard:=_ }) (v:=?_) rfl (by kernel_rfl) (by kernel_rfl) (by kernel_rfl) (fun _ _ _ h=>h) (Or.inl ⟨by rfl,?_⟩) (by assumption) ?_
 case refine_2 =>
  intro w hSw
  try dsimp only at hSw
  go_simp
  try with_reducible rfl
 simp only[Act.put,sA,sB,sC]
 refine wpAnyH_take (i:=8) (oi:={ dst:=some 35,op:=_,type:=_,pos:=_,after:=_,guard:=_ }) (v:=?_) rfl (by kernel_rfl) (by kernel_rfl) (by kernel_rfl) (fun _ _ _ h=>h) (Or.inl ⟨by rfl,?_⟩) (by assumption) ?_
 case refine_2 =>
  intro w hSw
  try dsimp only at hSw
  go_simp
  try with_reducible rfl
 simp only[Act.put,sA,sB,sC]
 refine wpAnyH_take (i:=10) (oi:={ dst:=some 37,op:=_,type:=_,pos:=_,after:=_,guard:=_ }) (v:=?_) rfl (by kernel_rfl) (by kernel_rfl) (by kernel_rfl) (fun _ _ _ h=>h) (Or.inl ⟨by rfl,?_⟩) (by assumption) ?_
 case refine_2 =>
  intro w hSw
  try dsimp only at hSw
  go_simp
  try with_reducible rfl
 simp only[Act.put,sA,sB,sC]
 refine wpAnyH_take (i:=11) (oi:={ dst:=some 38,op:=_,type:=_,pos:=_,after:=_,guard:=_ }) (v:=?_) rfl (by kernel_rfl) (by kernel_rfl) (by kernel_rfl) (fun _ _ _ h=>h) (Or.inl ⟨by rfl,?_⟩) (by assumption) ?_
 case refine_2 =>
  intro w hSw
  try dsimp only at hSw
  go_simp
  try with_reducible rfl
 simp only[Act.put,sA,sB,sC]
 refine wpAnyH_take (i:=12) (oi:={ dst:=some 39,op:=_,type:=_,pos:=_,after:=_,guard:=_ }) (v:=?_) rfl (by kernel_rfl) (by kernel_rfl) (by kernel_rfl) (fun _ _ _ h=>h) (Or.inl ⟨by rfl,?_⟩) (by assumption) ?_
 case refine_2 =>
  intro w hSw
  try dsimp only at hSw
  go_simp
  try with_reducible rfl
 simp only[Act.put,sA,sB,sC]
 refine wpAnyH_take (i:=13) (oi:={ dst:=some 40,op:=_,type:=_,pos:=_,after:=_,guard:=_ }) (v:=?_) rfl (by kernel_rfl) (by kernel_rfl) (by kernel_rfl) (fun _ _ _ h=>h) (Or.inl ⟨by rfl,?_⟩) (by assumption) ?_
 case refine_2 =>
  intro w hSw
  try dsimp only at hSw
  go_simp
  try with_reducible rfl
 simp only[Act.put,sA,sB,sC]
 refine wpAnyH_ready (rs:=[6]) (by kernel_rfl) (by simp) ?_
 refine AllReadyH.cons (o:={ dst:=some 33,op:=_,type:=_,pos:=_,after:=_,guard:=_ }) rfl (fun K hK=>?_) AllReadyH.nil
 go_simp
 refine(za HCM _ (Below.drew (Below.refl _ _))).mono ?_
 rintro e w3 ⟨rfl,hb1⟩
 have HB1:=zc ((Below.drew (Below.refl w.heap.size w)).trans hb1)
 have H1:=zc ((za H).keep (za HB1))
 clear hb1
 refine hK.out _ _ (zd (za H1).at'.blk 6) (fun hHeld1=>?_)
 clear hK K
 refine wpAnyH_take (i:=7) (oi:={ dst:=some 34,op:=_,type:=_,pos:=_,after:=_,guard:=_ }) (v:=?_) rfl (by kernel_rfl) (by kernel_rfl) (by kernel_rfl) (fun _ _ _ h=>h) (Or.inl ⟨by rfl,?_⟩) (by assumption) ?_
 case refine_2 =>
  intro w hSw
  try dsimp only at hSw
  go_simp
  try with_reducible rfl
 simp only[Act.put,sA,sB,sC]
 refine wpAnyH_take (i:=9) (oi:={ dst:=some 36,op:=_,type:=_,pos:=_,after:=_,guard:=_ }) (v:=?_) rfl (by kernel_rfl) (by kernel_rfl) (by kernel_rfl) (fun _ _ _ h=>h) (Or.inl ⟨by rfl,?_⟩) (by assumption) ?_
 case refine_2 =>
  intro w hSw
  try dsimp only at hSw
  go_simp
  try with_reducible rfl
 simp only[Act.put,sA,sB,sC]
 refine wpAnyH_take (i:=14) (oi:={ dst:=some 41,op:=_,type:=_,pos:=_,after:=_,guard:=_ }) (v:=?_) rfl (by kernel_rfl) (by kernel_rfl) (by kernel_rfl) (fun _ _ _ h=>h) (Or.inl ⟨by rfl,?_⟩) (by assumption) ?_
 case refine_2 =>
  intro w hSw
  try dsimp only at hSw
  go_simp
  try with_reducible rfl
 simp only[Act.put,sA,sB,sC]
 refine wpAnyH_take (i:=15) (oi:={ dst:=some 42,op:=_,type:=_,pos:=_,after:=_,guard:=_ }) (v:=?_) rfl (by kernel_rfl) (by kernel_rfl) (by kernel_rfl) (fun _ _ _ h=>h) (Or.inl ⟨by rfl,?_⟩) (by assumption) ?_
 case refine_2 =>
  intro w hSw
  try dsimp only at hSw
  go_simp
  try with_reducible rfl
 simp only[Act.put,sA,sB,sC]
 refine wpAnyH_done (by kernel_rfl) ?_ _
 go_wp2_with fail
 go_ret2
 exact⟨rfl,za HB1⟩
theorem anb {B:Nat} {w:World} {hp mb:Nat} {P:PHp} {D:DataW Unit} {n:Nat} {vyo vyf voo vof vn:Value} (h:HpG B w hp mb P D n vyo vyf voo vof vn) (vr:Value) (hroom:P.ro<(P.Y.length+(zg P.Y).length+(P.O.length+(zg P.O).length):Int)) :
  Calls prog 38 #[.pointer (some ⟨hp,0,none⟩),vr] w fun e w'=>e=.returned (.iface 29 (.int .i64 12))∧Below w.heap.size w w':=by
 have H:=zc h
 have c7:w.cell? ⟨hp,7,none⟩=some (.int .i64 P.ro):=zd h.at'.blk 7
 have hc1:=h.cnt
 have hc2:=h.pot
 have HPY:=zc (h.at'.young h.few)
 have HPO:=zc (h.at'.old h.few)
 obtain⟨cy,hcy⟩:∃cy:Nat,P.Y.length+(zg P.Y).length=cy:=⟨_,rfl⟩
 obtain⟨co,hco⟩:∃co:Nat,P.O.length+(zg P.O).length=co:=⟨_,rfl⟩
 have hroom2:P.ro<(cy:Int)+(co:Int):=by omega
 have HCY:Hid (∀X,Below w.heap.size w X→Calls prog 15 #[.pointer (some ⟨hp,0,none⟩)] X fun e w'=>e=.returned (.int .i64 (cy:Int))∧Below X.heap.size X w'):=fun X hX=>by
  have:=abl ((za HPY).keep hX) (by omega)
  rw[hcy] at this
  exact this
 have HCO:Hid (∀X,Below w.heap.size w X→Calls prog 15 #[.pointer (some ⟨hp,3,none⟩)] X fun e w'=>e=.returned (.int .i64 (co:Int))∧Below X.heap.size X w'):=fun X hX=>by
  have:=abl ((za HPO).keep hX) (by omega)
  rw[hco] at this
  exact this
 have hcy2:cy≤20000000:=by omega
 have hco2:co≤20000000:=by omega
 clear h hcy hco hc1 hc2 hroom
 have ent0:∀w:World,Sem.run prog (callFunc 15 #[.pointer (some ⟨hp,0,none⟩)]) w=.ok (.enter 15 #[.pointer (some ⟨hp,0,none⟩)]) w:=fun _=>by kernel_rfl
 have ent3:∀w:World,Sem.run prog (callFunc 15 #[.pointer (some ⟨hp,3,none⟩)]) w=.ok (.enter 15 #[.pointer (some ⟨hp,3,none⟩)]) w:=fun _=>by kernel_rfl
 have hwr:IntKind.i64.wrap ((cy:Int)+(co:Int))=(cy:Int)+(co:Int):=aav (by omega) (by omega)
 have hrm:decide (P.ro<(cy:Int)+(co:Int))=true:=by simp;omega
 go_enter func38,ntmps38
 go_wp2_with fail
 refine wp_region_held_drew (S:=fun w'=>w'.cell? ⟨hp,7,none⟩=some (.int .i64 P.ro)) (by kernel_rfl) c7 (fun hHeld=>?_)
 refine wpAnyH_take (i:=0) (oi:={ dst:=some 14,op:=_,type:=_,pos:=_,after:=_,guard:=_ }) (v:=?_) rfl (by kernel_rfl) (by kernel_rfl) (by kernel_rfl) (fun _ _ _ h=>h) (Or.inl ⟨by rfl,?_⟩) (by assumption) ?_
 case refine_2 =>
  intro w hSw
  try dsimp only at hSw
  go_simp
  try with_reducible rfl
 simp only[Act.put,sA,sB,sC]
 refine wpAnyH_take (i:=1) (oi:={ dst:=some 15,op:=_,type:=_,pos:=_,after:=_,guard:=_ }) (v:=?_) rfl (by kernel_rfl) (by kernel_rfl) (by kernel_rfl) (fun _ _ _ h=>h) (Or.inl ⟨by rfl,?_⟩) (by assumption) ?_
 case refine_2 =>
  intro w hSw
  try dsimp only at hSw
  go_simp
  try with_reducible rfl
 simp only[Act.put,sA,sB,sC]
 refine wpAnyH_take (i:=2) (oi:={ dst:=some 16,op:=_,type:=_,pos:=_,after:=_,guard:=_ }) (v:=?_) rfl (by kernel_rfl) (by kernel_rfl) (by kernel_rfl) (fun _ _ _ h=>h) (Or.inl ⟨by rfl,?_⟩) (by assumption) ?_
 case refine_2 =>
  intro w hSw
  try dsimp only at hSw
  go_simp
  try with_reducible rfl
 simp only[Act.put,sA,sB,sC]
 refine wpAnyH_take (i:=4) (oi:={ dst:=some 18,op:=_,type:=_,pos:=_,after:=_,guard:=_ }) (v:=?_) rfl (by kernel_rfl) (by kernel_rfl) (by kernel_rfl) (fun _ _ _ h=>h) (Or.inl ⟨by rfl,?_⟩) (by assumption) ?_
 case refine_2 =>
  intro w hSw
  try dsimp only at hSw
  go_simp
  try with_reducible rfl
 simp only[Act.put,sA,sB,sC]
 refine wpAnyH_take (i:=5) (oi:={ dst:=some 19,op:=_,type:=_,pos:=_,after:=_,guard:=_ }) (v:=?_) rfl (by kernel_rfl) (by kernel_rfl) (by kernel_rfl) (fun _ _ _ h=>h) (Or.inl ⟨by rfl,?_⟩) (by assumption) ?_
 case refine_2 =>
  intro w hSw
  try dsimp only at hSw
  go_simp
  try with_reducible rfl
 simp only[Act.put,sA,sB,sC]
 refine wpAnyH_take (i:=6) (oi:={ dst:=some 20,op:=_,type:=_,pos:=_,after:=_,guard:=_ }) (v:=?_) rfl (by kernel_rfl) (by kernel_rfl) (by kernel_rfl) (fun _ _ _ h=>h) (Or.inl ⟨by rfl,?_⟩) (by assumption) ?_
 case refine_2 =>
  intro w hSw
  try dsimp only at hSw
  go_simp
  try with_reducible rfl
 simp only[Act.put,sA,sB,sC]
 refine wpAnyH_take (i:=9) (oi:={ dst:=some 23,op:=_,type:=_,pos:=_,after:=_,guard:=_ }) (v:=?_) rfl (by kernel_rfl) (by kernel_rfl) (by kernel_rfl) (fun _ _ _ h=>h) (Or.inl ⟨by rfl,?_⟩) (by assumption) ?_
 case refine_2 =>
  intro w hSw
  try dsimp only at hSw
  go_simp
  try with_reducible rfl
 simp only[Act.put,sA,sB,sC]
 refine wpAnyH_take (i:=10) (oi:={ dst:=some 24,op:=_,type:=_,pos:=_,after:=_,guard:=_ }) (v:=?_) rfl (by kernel_rfl) (by kernel_rfl) (by kernel_rfl) (fun _ _ _ h=>h) (Or.inl ⟨by rfl,?_⟩) (by assumption) ?_
 case refine_2 =>
  intro w hSw
  try dsimp only at hSw
  go_simp
  try with_reducible rfl
 simp only[Act.put,sA,sB,sC]
 refine wpAnyH_take (i:=11) (oi:={ dst:=some 25,op:=_,type:=_,pos:=_,after:=_,guard:=_ }) (v:=?_) rfl (by kernel_rfl) (by kernel_rfl) (by kernel_rfl) (fun _ _ _ h=>h) (Or.inl ⟨by rfl,?_⟩) (by assumption) ?_
 case refine_2 =>
  intro w hSw
  try dsimp only at hSw
  go_simp
  try with_reducible rfl
 simp only[Act.put,sA,sB,sC]
 refine wpAnyH_take (i:=12) (oi:={ dst:=some 26,op:=_,type:=_,pos:=_,after:=_,guard:=_ }) (v:=?_) rfl (by kernel_rfl) (by kernel_rfl) (by kernel_rfl) (fun _ _ _ h=>h) (Or.inl ⟨by rfl,?_⟩) (by assumption) ?_
 case refine_2 =>
  intro w hSw
  try dsimp only at hSw
  go_simp
  try with_reducible rfl
 simp only[Act.put,sA,sB,sC]
 refine wpAnyH_ready (rs:=[3]) (by kernel_rfl) (by simp) ?_
 refine AllReadyH.cons (o:={ dst:=some 17,op:=_,type:=_,pos:=_,after:=_,guard:=_ }) rfl (fun K hK=>?_) AllReadyH.nil
 refine aag rfl (by simp[Act.eval,ent0,go_sem]) (((za HCY) _ (Below.drew (Below.refl _ _))).mono ?_)
 rintro e w1 ⟨rfl,hb1⟩
 have k7:=zj hb1 c7 (ze c7)
 have HB1:=zc hb1
 clear hb1
 refine hK.out _ _ k7 (fun hHeld3=>?_)
 clear hK K
 simp only[Act.put,sA,sB,sC]
 refine wpAnyH_ready (rs:=[7]) (by kernel_rfl) (by simp) ?_
 refine AllReadyH.cons (o:={ dst:=some 21,op:=_,type:=_,pos:=_,after:=_,guard:=_ }) rfl (fun K hK=>?_) AllReadyH.nil
 refine aag rfl (by simp[Act.eval,ent3,go_sem]) (((za HCO) _ ((Below.drew (Below.refl _ _)).trans (za HB1))).mono ?_)
 rintro e w2 ⟨rfl,hb2⟩
 have k8:=zj hb2 k7 (ze k7)
 have HB2:=zc hb2
 clear hb2
 refine hK.out _ _ k8 (fun hHeld7=>?_)
 clear hK K
 simp only[Act.put,sA,sB,sC]
 refine wpAnyH_take (i:=8) (oi:={ dst:=some 22,op:=_,type:=_,pos:=_,after:=_,guard:=_ }) (v:=?_) rfl (by kernel_rfl) (by kernel_rfl) (by kernel_rfl) (fun _ _ _ h=>h) (Or.inl ⟨by rfl,?_⟩) (by assumption) ?_
 case refine_2 =>
  intro w hSw
  try dsimp only at hSw
  go_simp
  try with_reducible rfl
 simp only[Act.put,sA,sB,sC]
 refine wpAnyH_take (i:=13) (oi:={ dst:=some 27,op:=_,type:=_,pos:=_,after:=_,guard:=_ }) (v:=?_) rfl (by kernel_rfl) (by kernel_rfl) (by kernel_rfl) (fun _ _ _ h=>h) (Or.inl ⟨by rfl,?_⟩) (by assumption) ?_
 case refine_2 =>
  intro w hSw
  try dsimp only at hSw
  go_simp
  try with_reducible rfl
 simp only[Act.put,sA,sB,sC]
 refine wpAnyH_done (by kernel_rfl) ?_ _
 go_wp2_with fail
 have hbw:Below w.heap.size w w2:=((Below.drew (Below.refl _ _)).trans (za HB1)).trans ((za HB2).mono (za HB1).size)
 go_ret
 exact⟨rfl,hbw⟩
end
section
open Go.RowKit Go.Maps
theorem af4 {w:World} {hp:Nat} {kd tag sz:Int} (h:kd<1∨4<kd∨sz<0∨1000<sz) :
  Calls prog 7 #[.pointer (some ⟨hp,0,none⟩),.int .i64 kd,.int .i64 tag,.int .i64 sz] w fun e w'=>e=.returned (.tuple #[.int .i64 0,.iface 29 (.int .i64 1)])∧w'=w:=by
 rcases(by omega:kd<1∨(¬kd<1∧4<kd)∨(¬kd<1∧¬4<kd∧sz<0)∨(¬kd<1∧¬4<kd∧¬sz<0∧1000<sz)) with h1 | ⟨h1,h2⟩ | ⟨h1,h2,h3⟩ | ⟨h1,h2,h3,h4⟩
 all_goals
  clear h
  go_enter func7,ntmps7
  go_wp2_with fail
  go_ret2
  exact⟨rfl,rfl⟩
end
end Go.Proofs.YtpnghfghdbijlaaGreatDoor
