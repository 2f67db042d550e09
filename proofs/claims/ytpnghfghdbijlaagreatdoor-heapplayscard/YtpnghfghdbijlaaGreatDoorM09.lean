/- A part. -/
import Derived.Test.YtpnghfghdbijlaaGreatDoorM08
open Go.Proofs.Tryz
namespace Go.Proofs.YtpnghfghdbijlaaGreatDoor
open Go.RowKit
set_option linter.unusedVariables false
set_option linter.unusedSimpArgs false
set_option maxRecDepth 100000
set_option maxHeartbeats 40000000
section
open Go.RowKit Go.Maps
structure RtFree (w:World) (hp mb:Nat) (vyo vyf voo vof:Value) (g:Option Addr) (l:List (Option (Nat×Nat×HV))):Prop where
 rt:RtAt w g l
 gt:∀gb go,g=some ⟨gb,go,none⟩→0<l.length→Typ w gb 85
 ty:∀rb ro v,some (rb,ro,v)∈l→∃cs,w.heap[rb]?=some (.cells cs 69 (0,0))
 nf:∀rb ro v,some (rb,ro,v)∈l→vyf.ownBlock≠some rb∧vof.ownBlock≠some rb
 ap:∀rb ro v ro' v',some (rb,ro,v)∈l→some (rb,ro',v')∈l→ro=ro'∨ro+2<ro'∨ro'+2<ro
 n64:∀rb ro v,some (rb,ro,v)∈l→I64 v.n
 few:l.length≤1000000000
theorem RtFree.keep {w w':World} {hp mb:Nat} {vyo vyf voo vof:Value} {g:Option Addr} {l:List (Option (Nat×Nat×HV))} (h:RtFree w hp mb vyo vyf voo vof g l) (hb:Below w.heap.size w w'):RtFree w' hp mb vyo vyf voo vof g l:=by
 refine⟨⟨fun k r hk=>?_,fun rb ro v hv=>?_⟩,fun gb go e h0=>(h.gt gb go e h0).move (hb.block _ (h.gt gb go e h0).lt),fun rb ro v hv=>?_,h.nf,h.ap,h.n64,h.few⟩
 ·obtain⟨gb,go,e,hc⟩:=h.rt.at' k r hk
  exact⟨gb,go,e,zj hb hc (ze (a:=⟨gb,go+k,none⟩) hc)⟩
 ·obtain⟨a,b,c⟩:=h.rt.val rb ro v hv
  exact⟨zj hb a (ze a),zj hb b (ze b),zj hb c (ze c)⟩
 ·obtain⟨cs,hc⟩:=h.ty rb ro v hv
  exact⟨cs,(hb.block rb (hlt hc)).trans hc⟩
theorem amc {B:Nat} {w2 w4:World} {hp mb:Nat} {P:PHp} {D:DataW Unit} {n:Nat} {vyo vyf voo vof vn:Value} (hG:HpG B w2 hp mb P D n vyo vyf voo vof vn) {g:Option Addr} {l:List (Option (Nat×Nat×HV))} (hr:RtFree w2 hp mb vyo vyf voo vof g l) (hb:Below w2.heap.size w2 w4) :
  RtFit (aa6 w2 hp vyo vyf) voo vof w4 g l:=by
 have tH:Typ w2 hp 51:=⟨_,_,hG.at'.blk⟩
 have out:∀k t,Typ w2 k t→t≠51→t≠61→vof.ownBlock≠some k→Out (aa6 w2 hp vyo vyf) voo vof w4 k:=fun k t hk h1 h2 h3 =>
  ⟨Nat.lt_of_lt_of_le hk.lt hb.size,hk.ne tH h1,fun b hb' e=>by
   simp[aa6] at hb'
   subst hb'
   have e:w2.heap.size=k:=e
   have:=hk.lt
   omega,fun e=>(hk.ne (zu hG.at'.oo e) h2) rfl,h3⟩
 refine⟨⟨fun gb go e h0=>out gb _ (hr.gt gb go e h0) (by decide) (by decide) (fun e'=>((hr.gt gb go e h0).ne (zu hG.at'.of' e') (by decide)) rfl),fun rb ro v hv=>?_⟩,fun rb ro v hv=>?_,fun b hb' rb ro v hv=>?_,fun gb go e h0=>(hr.gt gb go e h0).move (hb.block _ (hr.gt gb go e h0).lt),hr.ap,(hr.keep hb).ty⟩
 ·obtain⟨cs,hc⟩:=hr.ty rb ro v hv
  exact out rb _ ⟨_,_,hc⟩ (by decide) (by decide) (hr.nf rb ro v hv).2
 ·obtain⟨cs,hc⟩:=(hr.keep hb).ty rb ro v hv
  exact⟨_,_,hc⟩
 ·simp[aa6] at hb'
  subst hb'
  exact(hr.nf rb ro v hv).1
theorem RtFit.later {m:Mb} {vto vtf vto' vtf':Value} {w w':World} {g:Option Addr} {l:List (Option (Nat×Nat×HV))} (h:RtFit m vto vtf w g l) (hF:FrM m vto vtf w w') (h1:vto'.ownBlock=vto.ownBlock∨∀j,vto'.ownBlock=some j→w.heap.size≤j) (h2:vtf'.ownBlock=vtf.ownBlock∨∀j,vtf'.ownBlock=some j→w.heap.size≤j):RtFit m vto' vtf' w' g l :=
 ⟨⟨fun gb go e h0=>(h.out.g' gb go e h0).later hF.size h1 h2,fun rb ro v hv=>(h.out.v' rb ro v hv).later hF.size h1 h2⟩,fun rb ro v hv=>(h.ty rb ro v hv).move ((h.out.v' rb ro v hv).same hF),h.bf,fun gb go e h0=>(h.gt gb go e h0).move ((h.out.g' gb go e h0).same hF),h.ap,fun rb ro v hv=>by
  obtain⟨cs,hc⟩:=h.fz rb ro v hv
  exact⟨cs,((h.out.v' rb ro v hv).same hF).trans hc⟩⟩
theorem RtFit.alloc {m:Mb} {vto vtf:Value} {w w':World} {g:Option Addr} {l:List (Option (Nat×Nat×HV))} (h:RtFit m vto vtf w g l) (hb:Below w.heap.size w w') (ht:m.tb<w.heap.size):RtFit m vto vtf w' g l:=h.later (FrM.of_below hb ht) (Or.inl rfl) (Or.inl rfl)
theorem abj {w:World} {mb:Nat} {es:Array MapEntry} {cl:Nat} (hm:w.heap[mb]?=some (.map es cl)) {k:Nat} {t:TypeId} (hk:Typ w k t):k≠mb:=by
 rintro rfl
 obtain⟨cs,fr,hc⟩:=hk
 rw[hc] at hm
 cases hm
theorem an3 {B:Nat} {w2 w4 w6 w7:World} {hp mb:Nat} {P:PHp} {D:DataW Unit} {n:Nat} {vyo vyf voo vof vn vt6 vf6:Value} {M6:MS} {cs6:Array Value} (hG2:HpG B w2 hp mb P D n vyo vyf voo vof vn) (hb4:Below w2.heap.size w2 w4) {g:Option Addr} {l:List (Option (Nat×Nat×HV))} (hr:RtFree w2 hp mb vyo vyf voo vof g l)
  (hF:FrM (aa6 w2 hp vyo vyf) voo vof w4 w6) (hM6:MvAt B w6 (aa6 w2 hp vyo vyf) M6 cs6 51 vt6 vf6) (a6:vt6.ownBlock=voo.ownBlock∨∀j,vt6.ownBlock=some j→w4.heap.size≤j) (b6:vf6.ownBlock=vof.ownBlock∨∀j,vf6.ownBlock=some j→w4.heap.size≤j)
  (hw7:w7=w6.alloc (.cells #[.pointer (some ⟨w2.heap.size+1,0,none⟩)] 108)):∃p0,M6.L=[p0]∧p0.first=P.fy∧p0.objs.length=P.Y.length∧StAt w7 (aa6 w2 hp vyo vyf) M6 vt6 vf6 hp mb w6.heap.size ⟨w2.heap.size+1,hp,0,w2.heap.size,vyo,vyf⟩ p0 l n D:=by
 have hb7:Below w6.heap.size w6 w7:=by rw[hw7];exact(Below.refl _ _).alloc (Nat.le_refl _) _
 have hs7:w7.heap.size=w6.heap.size+1:=by rw[hw7];simp
 have hG4:=hG2.keep hb4
 have tH:Typ w2 hp 51:=⟨_,_,hG2.at'.blk⟩
 obtain⟨es,cl,hm2,hrest⟩:=hG2.own
 have hm4:w4.heap[mb]?=some (.map es cl):=(hb4.block mb (hlt hm2)).trans hm2
 have omb:Out (aa6 w2 hp vyo vyf) voo vof w4 mb:=⟨hlt hm4,fun e=>abj hm2 tH e.symm,fun b hb' e=>by
  simp[aa6] at hb'
  subst hb'
  have e:w2.heap.size=mb:=e
  have:=hlt hm2
  omega,fun e=>abj hm2 (zu hG2.at'.oo e) rfl,fun e=>abj hm2 (zu hG2.at'.of' e) rfl⟩
 have hm7:w7.heap[mb]?=some (.map es cl):=(hb7.block mb (Nat.lt_of_lt_of_le (hlt hm4) hF.size)).trans ((omb.same hF).trans hm4)
 have hlen:=hM6.fr.len
 obtain⟨p0,hp0⟩:∃p0,M6.L=[p0]:=by
  match hL:M6.L,hlen with
  | [p],_=>exact⟨p,rfl⟩
  | [],q=>simp[aa6] at q
  | _ :: _ :: _,q=>simp[aa6] at q
 have lv:=hM6.fr.lvs 0 ⟨w2.heap.size+1,hp,0,w2.heap.size,vyo,vyf⟩ p0 rfl (by rw[hp0];rfl)
 have hrt:∀k,acr l k→Typ w2 k 69:=fun k ⟨ro,v,hv⟩=>by
  obtain⟨cs,hc⟩:=hr.ty k ro v hv
  exact⟨_,_,hc⟩
 have e0:w6.cell? ⟨hp,0,none⟩=some (.int .i64 P.fy):=(hF.head 0 (by simp[aa6])).trans (zd hG4.at'.blk 0)
 refine⟨p0,hp0,?_,?_,⟨?_,⟨es,cl,hm7,hrest⟩,(omb.later hF.size a6 b6).later hb7.size (Or.inl rfl) (Or.inl rfl),fun q=>abj hm2 (hrt mb q) rfl,?_,?_,?_,Or.inl ⟨rfl,rfl⟩,fun q=>((hrt hp q).ne tH (by decide)) rfl,?_,fun _=>by simp[aa6],rfl,by rw[hp0];rfl,⟨rfl,rfl⟩⟩⟩
 ·have:=lv.f0
  rw[show (⟨hp,0,none⟩:Addr)=⟨hp,0,none⟩ from rfl] at this
  have e1:w6.cell? ⟨hp,0,none⟩=some (.int .i64 p0.first):=this
  rw[e0] at e1
  simpa using e1.symm
 ·obtain⟨g1,c1,q1⟩:=aaa lv.pt.objs
  obtain⟨g2,c2,q2⟩:=aaa hG2.at'.yo
  have q1:vyo=.slice g1 p0.objs.length c1:=q1
  rw[q2] at q1
  simp only[Value.slice.injEq] at q1
  exact q1.2.1.symm
 ·have q:w6.cell? ⟨hp,9,none⟩=some (.map (some mb)):=(hF.head 9 (by simp[aa6])).trans (zd hG4.at'.blk 9)
  exact zj hb7 q (ze q)
 ·refine⟨by omega,fun e=>?_,fun b hb' e=>?_,fun e=>?_,fun e=>?_⟩
  ·have:=hlt hM6.tpart.blk
   have e:w6.heap.size=hp:=e
   have this:hp<w6.heap.size:=this
   omega
  ·have:=(hM6.wb_ty hb').lt
   omega
  ·have:=(zu hM6.tpart.objs e).lt
   omega
  ·have:=(zu hM6.tpart.flds e).lt
   omega
 ·intro q
  have:=(hrt _ q).lt
  have:=hb4.size
  have:=hF.size
  omega
 ·intro j b hj
  match j with
  | 0 =>
   simp[aa6] at hj
   subst hj
   rw[hw7]
   exact zd (aan _ _) 0
  | j+1=>simp[aa6] at hj
 ·have q:w6.heap[hp]?=some (.cells cs6 51 (0,0)):=hM6.tpart.blk
  exact⟨cs6,_,(hb7.block hp (hlt q)).trans q,by rw[hM6.szn];simp[aa6]⟩
def aba (P:PHp) (T:List HO) (mn:Int):PHp:={ P with fy:=P.fy+2*P.Y.length,Y:=[],O:=T,noted:=[],minors:=mn }
def MinorPost (B:Nat) (P:PHp) (D:DataW Unit) (n hp mb:Nat) (g:Option Addr) (l:List (Option (Nat×Nat×HV))) (voo vof:Value) (w w':World):Prop :=
 ∃(M:MS) (n':Nat) (vto' vtf':Value) (mn:Int),MInv P.O.length (zg M.T).length M∧Cap M∧Later (aae P).L M.L∧M.ft=P.fo∧M=aai (Go.Proofs.YtpnghfghdbijlaaGreatDoor.pot (zv (aae P) (zy l))-(zg P.O).length) (zv (aae P) (zy l)) (zg P.O).length∧(∃r,M.T.map hdr=P.O.map hdr++r)∧(∀i,i<(zg P.O).length→(zg M.T)[i]?=(zg P.O)[i]?)∧(∀rb ro v,some (rb,ro,v)∈l→aa0 M.L v) ∧
  RtNow M w' g l l.length∧HpAt B w' hp mb (aba P M.T mn) (.slice none 0 0) (.slice none 0 0) vto' vtf' (.slice none 0 0)∧w'.ownsMap prog 3 (plainElem prog 3) mb n' (abb D M.L)∧n'≤n+P.Y.length ∧
  (vto'.ownBlock=voo.ownBlock∨∀j,vto'.ownBlock=some j→w.heap.size≤j)∧(vtf'.ownBlock=vof.ownBlock∨∀j,vtf'.ownBlock=some j→w.heap.size≤j) ∧
  (∀k,k<w.heap.size→k≠hp→k≠mb→voo.ownBlock≠some k→vof.ownBlock≠some k→¬acr l k→w'.heap[k]?=w.heap[k]?)∧w.heap.size≤w'.heap.size∧w'.os=w.os∧w'.tape=w.tape∧w'.output=w.output
theorem ahf {cs:Array Value} {a:Array Value} (h1:cs.size=13) (h2:a.size=13) (h:∀c,c<13→cs[c]?=a[c]?):cs=a:=by
 apply Array.ext_getElem?
 intro i
 by_cases hi:i<13
 ·exact h i hi
 ·rw[Array.getElem?_eq_none (by omega),Array.getElem?_eq_none (by omega)]
theorem aag {P:Program} {ops:Array Oper} {Q:Exit→Act→World→Prop} {o:Oper} {a:Act} {w:World} {K:Act→World→Prop} {E:Prop} (hgd:o.guard=none) {F:FuncId} {args:Array Value} (hrun:(execOp a.eval o).run P w=.ok (.enter F args) w)
  (hc:Calls P F args w fun
   | .returned v,w''=>K (a.put o.dst v) w''
   | .panicked chain,w''=>Q (.panic chain) a w''
   | .outgrown,_=>LetsOut Q):if Region.wanted o (yielded ops a.tmps)=true then Oper.wp P o a w K Q else E:=by
 rw[if_pos (show Region.wanted o (yielded ops a.tmps)=true by simp[Region.wanted,hgd])]
 unfold Oper.wp
 rw[hrun]
 exact hc
end
section
open Go.RowKit Go.Maps
structure LeftAt (X w':World) (pb po n l wb:Nat):Prop where
 below:Below X.heap.size X w'
 bw:w'.heap[wb]?=some (.cells ((List.replicate n (0:Int)).map iv).toArray 3 (0,0))
 bl:w'.heap[l]?=some (.cells #[.pointer (some ⟨pb,po,none⟩),.slice (some ⟨wb,0,none⟩) n n] 120 (0,0))
 gw:X.heap.size≤wb
 gl:X.heap.size≤l
theorem ab0 {B:Nat} {X:World} {pb po:Nat} {l:List HO} {vo vf:Value} (h:PtAt B X pb po l vo vf) (hl:l.length≤10000000) :
  Calls prog 50 #[.pointer (some ⟨pb,po,none⟩)] X fun e w'=>∃k wb,e=.returned (.pointer (some ⟨k,0,none⟩))∧Hid (LeftAt X w' pb po l.length k wb) :=
 (ahd h hl).mono fun e w' ⟨he,hw⟩=>⟨X.heap.size+1,X.heap.size,he,by rw[hw];exact⟨af9 _ _ _ _,akv _ _ _ _,ahu _ _ _ _,Nat.le_refl _,by omega⟩⟩
structure MajBeg (B:Nat) (w wc:World) (hp:Nat) (P:PHp) (vyo vyf voo vof:Value) (l0 wb0 l1 wb1 tb:Nat):Prop where
 below:Below w.heap.size w wc
 y:LvAt B wc ⟨l0,hp,0,wb0,vyo,vyf⟩ ⟨P.fy,P.Y,List.replicate P.Y.length 0⟩
 o:LvAt B wc ⟨l1,hp,3,wb1,voo,vof⟩ ⟨P.fo,P.O,List.replicate P.O.length 0⟩
 t0:Typ wc l0 120
 t1:Typ wc l1 120
 w0:w.heap.size≤wb0
 w1:w.heap.size≤wb1
 nw:wb0≠wb1
 bt:wc.heap[tb]?=some (.cells #[.int .i64 (P.fo+2*P.O.length),.slice none 0 0,.slice none 0 0] 47 (0,0))
 tg:w.heap.size≤tb
theorem amd {B:Nat} {X X' xf:World} {pb po k wb:Nat} {l:List HO} {vo vf:Value} {f:Int} (h:LeftAt X X' pb po l.length k wb) (hb:Below X'.heap.size X' xf) (hp:PtAt B xf pb po l vo vf) (hf:xf.cell? ⟨pb,po,none⟩=some (.int .i64 f)) (h0:0≤f) (h1:f+2*l.length≤4611686018427387904):LvAt B xf ⟨k,pb,po,wb,vo,vf⟩ ⟨f,l,List.replicate l.length 0⟩:=by
 have q1:=(hb.block k (hlt h.bl)).trans h.bl
 exact⟨zd q1 0,zd q1 1,(hb.block wb (hlt h.bw)).trans h.bw,by simp,hf,hp,h0,h1⟩
theorem act {B:Nat} {w X0 X0' X1 X1' xf:World} {hp mb:Nat} {P:PHp} {D:DataW Unit} {n:Nat} {vyo vyf voo vof vn:Value} (h:HpG B w hp mb P D n vyo vyf voo vof vn) {l0 wb0 l1 wb1 tb:Nat} (a0:LeftAt X0 X0' hp 0 P.Y.length l0 wb0) (b0:Below w.heap.size w X0) (c0:Below X0'.heap.size X0' xf) (a1:LeftAt X1 X1' hp 3 P.O.length l1 wb1) (b1:Below w.heap.size w X1) (c1:Below X1'.heap.size X1' xf) (hs:X0'.heap.size≤X1.heap.size)
  (ht:xf.heap[tb]?=some (.cells #[.int .i64 0,.slice none 0 0,.slice none 0 0] 47 (0,0))) (hx:Below w.heap.size w xf) (hg:w.heap.size≤tb) :
  MajBeg B w (((xf.setCell ⟨tb,0,none⟩ (.int .i64 (P.fo+2*P.O.length))).setCell ⟨tb,1,none⟩ (.slice none 0 0)).setCell ⟨tb,2,none⟩ (.slice none 0 0)) hp P vyo vyf voo vof l0 wb0 l1 wb1 tb:=by
 have hG:=h.keep hx
 have tT:Typ xf tb 47:=⟨_,_,ht⟩
 have oth:∀k,k≠tb→(((xf.setCell ⟨tb,0,none⟩ (.int .i64 (P.fo+2*P.O.length))).setCell ⟨tb,1,none⟩ (.slice none 0 0)).setCell ⟨tb,2,none⟩ (.slice none 0 0)).heap[k]?=xf.heap[k]?:=fun k hk=>by rw[zo _ hk,zo _ hk,zo _ hk]
 have kt:∀{k t},Typ xf k t→t≠47→(((xf.setCell ⟨tb,0,none⟩ (.int .i64 (P.fo+2*P.O.length))).setCell ⟨tb,1,none⟩ (.slice none 0 0)).setCell ⟨tb,2,none⟩ (.slice none 0 0)).heap[k]?=xf.heap[k]?:=fun hk hne=>oth _ (hk.ne tT hne)
 have tl0:Typ xf l0 120:=⟨_,_,(c0.block l0 (hlt a0.bl)).trans a0.bl⟩
 have tl1:Typ xf l1 120:=⟨_,_,(c1.block l1 (hlt a1.bl)).trans a1.bl⟩
 have tw0:Typ xf wb0 3:=⟨_,_,(c0.block wb0 (hlt a0.bw)).trans a0.bw⟩
 have tw1:Typ xf wb1 3:=⟨_,_,(c1.block wb1 (hlt a1.bw)).trans a1.bw⟩
 have tH:Typ xf hp 51:=⟨_,_,hG.at'.blk⟩
 have y:=amd a0 c0 (hG.at'.young hG.few) (zd hG.at'.blk 0) hG.small.y0 hG.small.y1
 have o:=amd a1 c1 (hG.at'.old hG.few) (zd hG.at'.blk 3) hG.small.o0 hG.small.o1
 refine⟨((hx.setCell hg _).setCell hg _).setCell hg _,y.other (kt tl0 (by decide)) (kt tw0 (by decide)) (fun c _=>World.cell?_of_block (kt tH (by decide))) (fun j hj=>kt (zu y.pt.objs hj) (by decide)) (fun j hj=>kt (zu y.pt.flds hj) (by decide)),o.other (kt tl1 (by decide)) (kt tw1 (by decide)) (fun c _=>World.cell?_of_block (kt tH (by decide))) (fun j hj=>kt (zu o.pt.objs hj) (by decide)) (fun j hj=>kt (zu o.pt.flds hj) (by decide)),tl0.move (kt tl0 (by decide)),tl1.move (kt tl1 (by decide)),Nat.le_trans b0.size a0.gw,Nat.le_trans b1.size a1.gw,?_,set3 ht _ _ _,hg⟩
 have:=hlt a0.bw
 have:=a1.gw
 omega
def afn (wc:World) (tb l0 l1:Nat):World:=ae2 (wc.alloc (.cells #[.pointer (some ⟨l0,0,none⟩),.pointer (some ⟨l1,0,none⟩)] 108)) tb 0 wc.heap.size 2 2
def ab1 (wc:World) (hp tb l0 wb0 l1 wb1:Nat) (vyo vyf voo vof:Value):Mb:=⟨wc.heap.size+2,wc.heap.size+1,wc.heap.size,2,tb,0,3,[⟨l0,hp,0,wb0,vyo,vyf⟩,⟨l1,hp,3,wb1,voo,vof⟩]⟩
theorem afb (wc:World) (tb l0 l1:Nat):Below wc.heap.size wc (afn wc tb l0 l1):=by
 have h2:Below wc.heap.size wc (wc.alloc (.cells #[.pointer (some ⟨l0,0,none⟩),.pointer (some ⟨l1,0,none⟩)] 108)):=(Below.refl _ _).alloc (Nat.le_refl _) _
 exact h2.trans ((adn _ _ _ _ _ _).mono h2.size)
theorem agh {P:Lv→Prop} {a b:Lv} (ha:P a) (hb:P b):∀x∈[a,b],P x:=by
 intro x hx
 simp at hx
 rcases hx with rfl | rfl
 ·exact ha
 ·exact hb
theorem aga {B:Nat} {w wc:World} {hp mb:Nat} {P:PHp} {D:DataW Unit} {n:Nat} {vyo vyf voo vof vn:Value} (h:HpG B w hp mb P D n vyo vyf voo vof vn) {l0 wb0 l1 wb1 tb:Nat} (q:MajBeg B w wc hp P vyo vyf voo vof l0 wb0 l1 wb1 tb) :
  MvAt B (afn wc tb l0 l1) (ab1 wc hp tb l0 wb0 l1 wb1 vyo vyf voo vof) (zw P) #[.int .i64 (P.fo+2*P.O.length),.slice none 0 0,.slice none 0 0] 47 (.slice none 0 0) (.slice none 0 0):=by
 have hb:=afb wc tb l0 l1
 have hG:=(h.keep q.below).keep hb
 have z2:(wc.alloc (.cells #[.pointer (some ⟨l0,0,none⟩),.pointer (some ⟨l1,0,none⟩)] 108)).heap.size=wc.heap.size+1:=by simp
 have kfb:(afn wc tb l0 l1).heap[wc.heap.size+1]?=some (.cells #[.slice (some ⟨wc.heap.size,0,none⟩) 2 2] 121 (0,0)):=by
  have:=ajw (wc.alloc (.cells #[.pointer (some ⟨l0,0,none⟩),.pointer (some ⟨l1,0,none⟩)] 108)) tb 0 wc.heap.size 2 2
  rw[z2] at this
  exact this
 have kmv:(afn wc tb l0 l1).heap[wc.heap.size+2]?=some (.cells #[.pointer (some ⟨tb,0,none⟩),.func (.func 62) #[] #[.pointer (some ⟨wc.heap.size+1,0,none⟩)]] 124 (0,0)):=by
  have:=ajx (wc.alloc (.cells #[.pointer (some ⟨l0,0,none⟩),.pointer (some ⟨l1,0,none⟩)] 108)) tb 0 wc.heap.size 2 2
  rw[z2] at this
  exact this
 have klb:(afn wc tb l0 l1).heap[wc.heap.size]?=some (.cells #[.pointer (some ⟨l0,0,none⟩),.pointer (some ⟨l1,0,none⟩)] 108 (0,0)) :=
  ((adn _ tb 0 wc.heap.size 2 2).block wc.heap.size (by rw[z2];omega)).trans (aan wc _)
 have kt:∀{k t},Typ wc k t→Typ (afn wc tb l0 l1) k t:=fun z=>z.move (hb.block _ z.lt)
 have y:=q.y.keep hb
 have o:=q.o.keep hb
 have tH:Typ (afn wc tb l0 l1) hp 51:=⟨_,_,hG.at'.blk⟩
 have tP:Typ (afn wc tb l0 l1) tb 47:=kt ⟨_,_,q.bt⟩
 have hne:hp≠tb:=tH.ne tP (by decide)
 refine⟨zd kmv 0,zd kmv 1,⟨zd kfb 0,fun j b hj=>?_,rfl,by simp[ab1],fun j b p hj hp'=>?_⟩,⟨(hb.block tb (hlt q.bt)).trans q.bt,rfl,rfl,rfl,World.ownsRow_nil _ _ _ _,World.ownsRow_nil _ _ _ _,by simp[zw,zg],by simp[zw],by decide,by decide⟩,by simp[ab1],Nat.le_trans hG.hB (Nat.le_refl _),Or.inr rfl,⟨_,_,kmv⟩,⟨_,_,kfb⟩,⟨_,_,klb⟩,agh (kt q.t0) (kt q.t1),agh ⟨_,Or.inl rfl,tH⟩ ⟨_,Or.inl rfl,tH⟩,agh (fun e=>absurd e hne) (fun e=>absurd e hne),fun b _ j hj=>(by cases hj),fun b _ j hj=>(by cases hj),fun i j b b' hi hj hne'=>?_,rfl⟩
 ·match j with
  | 0=>simp[ab1] at hj;subst hj;exact zd klb 0
  | 1=>simp[ab1] at hj;subst hj;exact zd klb 1
  | j+2=>simp[ab1] at hj
 ·match j with
  | 0=>simp[ab1] at hj;simp[zw] at hp';subst hj;subst hp';exact y
  | 1=>simp[ab1] at hj;simp[zw] at hp';subst hj;subst hp';exact o
  | j+2=>simp[ab1] at hj
 ·match i,j with
  | 0,0=>exact absurd rfl hne'
  | 1,1=>exact absurd rfl hne'
  | 0,1=>simp[ab1] at hi hj;subst hi;subst hj;exact q.nw
  | 1,0=>simp[ab1] at hi hj;subst hi;subst hj;exact fun e=>q.nw e.symm
  | 0,j+2=>simp[ab1] at hj
  | 1,j+2=>simp[ab1] at hj
  | i+2,_=>simp[ab1] at hi
theorem acb {B:Nat} {w wc w4:World} {hp:Nat} {P:PHp} {vyo vyf voo vof:Value} {l0 wb0 l1 wb1 tb:Nat} (q:MajBeg B w wc hp P vyo vyf voo vof l0 wb0 l1 wb1 tb) (hs:wc.heap.size≤w4.heap.size) {k:Nat} (hk:k<w.heap.size):Out (ab1 wc hp tb l0 wb0 l1 wb1 vyo vyf voo vof) (.slice none 0 0) (.slice none 0 0) w4 k :=
 ⟨by have:=q.below.size;omega,fun e=>by
  have e:k=tb:=e
  have:=q.tg
  omega,agh (fun e=>by
  have e:wb0=k:=e
  have:=q.w0
  omega) (fun e=>by
  have e:wb1=k:=e
  have:=q.w1
  omega),fun e=>(by cases e),fun e=>(by cases e)⟩
theorem ajk {B:Nat} {w wc w4:World} {hp mb:Nat} {P:PHp} {vyo vyf voo vof:Value} {l0 wb0 l1 wb1 tb:Nat} (q:MajBeg B w wc hp P vyo vyf voo vof l0 wb0 l1 wb1 tb) (hs:wc.heap.size≤w4.heap.size) (hb:Below w.heap.size w w4) {g:Option Addr} {l:List (Option (Nat×Nat×HV))} (hr:RtFree w hp mb vyo vyf voo vof g l) :
  RtFit (ab1 wc hp tb l0 wb0 l1 wb1 vyo vyf voo vof) (.slice none 0 0) (.slice none 0 0) w4 g l :=
 ⟨⟨fun gb go e h0=>acb q hs (hr.gt gb go e h0).lt,fun rb ro v hv=>by obtain⟨cs,hc⟩:=hr.ty rb ro v hv;exact acb q hs (hlt hc)⟩,fun rb ro v hv=>by obtain⟨cs,hc⟩:=(hr.keep hb).ty rb ro v hv;exact⟨_,_,hc⟩,agh (fun rb ro v hv=>(hr.nf rb ro v hv).1) (fun rb ro v hv=>(hr.nf rb ro v hv).2),(hr.keep hb).gt,hr.ap,(hr.keep hb).ty⟩
theorem aej:∀(f:Nat) {k0 s:Nat} {M:MS},MInv k0 s M→Go.Proofs.YtpnghfghdbijlaaGreatDoor.pot (aai f M s)=Go.Proofs.YtpnghfghdbijlaaGreatDoor.pot M
 | 0,_,_,_,_=>rfl
 | f+1,k0,s,M,h=>by
  rw[aai]
  split
  ·rename_i hlt
   exact(aej f (h.field hlt).1).trans (afu h s)
  ·rfl
theorem an4 {k0 s:Nat} {M:MS} (h:MInv k0 s M) (i:Nat):Go.Proofs.YtpnghfghdbijlaaGreatDoor.cnt (aby M i)=Go.Proofs.YtpnghfghdbijlaaGreatDoor.cnt M:=by
 cases hv:(zg M.T)[i]? with
 | none=>unfold aby;rw[hv]
 | some v =>
  rw[acm hv,←aid h.full h.ft v]
  unfold Go.Proofs.YtpnghfghdbijlaaGreatDoor.cnt
  show (aah _ _ _).length+_=_
  rw[abr]
theorem aek:∀(f:Nat) {k0 s:Nat} {M:MS},MInv k0 s M→Go.Proofs.YtpnghfghdbijlaaGreatDoor.cnt (aai f M s)=Go.Proofs.YtpnghfghdbijlaaGreatDoor.cnt M
 | 0,_,_,_,_=>rfl
 | f+1,k0,s,M,h=>by
  rw[aai]
  split
  ·rename_i hlt
   exact(aek f (h.field hlt).1).trans (an4 h s)
  ·rfl
theorem ad6 {k0 s:Nat}:∀(l:List HV) {M:MS},MInv k0 s M→Go.Proofs.YtpnghfghdbijlaaGreatDoor.cnt (zv M l)=Go.Proofs.YtpnghfghdbijlaaGreatDoor.cnt M
 | [],_,_=>rfl
 | v :: l,_,h=>(ad6 l (h.move v).1).trans (aid h.full h.ft v)
theorem ahw (P:PHp):Go.Proofs.YtpnghfghdbijlaaGreatDoor.cnt (zw P)=P.Y.length+P.O.length∧Go.Proofs.YtpnghfghdbijlaaGreatDoor.pot (zw P)=(zg P.Y).length+(zg P.O).length:=by
 constructor
 ·unfold Go.Proofs.YtpnghfghdbijlaaGreatDoor.cnt
  rw[acd _ (abz P)]
  simp[zw,agf]
 ·unfold Go.Proofs.YtpnghfghdbijlaaGreatDoor.pot ad9
  rw[acd _ (abz P)]
  simp only[zw,List.map_cons,List.map_nil,List.sum_cons,List.sum_nil,ais]
  simp[zg]
def abd (P:PHp) (T:List HO) (mj:Int):PHp:={ P with fy:=P.fy+2*P.Y.length,Y:=[],fo:=P.fo+2*P.O.length,O:=T,noted:=[],majors:=mj }
def MajorPost (B:Nat) (P:PHp) (D:DataW Unit) (n hp mb:Nat) (g:Option Addr) (l:List (Option (Nat×Nat×HV))) (w w':World):Prop :=
 ∃(M:MS) (n':Nat) (vto' vtf':Value) (mj:Int),MInv 0 (zg M.T).length M∧Cap M∧Later (zw P).L M.L∧M.ft=P.fo+2*P.O.length∧M=aai (Go.Proofs.YtpnghfghdbijlaaGreatDoor.pot (zv (zw P) (zy l))) (zv (zw P) (zy l)) 0∧(∀rb ro v,some (rb,ro,v)∈l→aa0 M.L v) ∧
  RtNow M w' g l l.length∧HpAt B w' hp mb (abd P M.T mj) (.slice none 0 0) (.slice none 0 0) vto' vtf' (.slice none 0 0)∧w'.ownsMap prog 3 (plainElem prog 3) mb n' (abb D M.L)∧n'≤n+(P.Y.length+P.O.length) ∧
  (∀j,vto'.ownBlock=some j→w.heap.size≤j)∧(∀j,vtf'.ownBlock=some j→w.heap.size≤j) ∧
  (∀k,k<w.heap.size→k≠hp→k≠mb→¬acr l k→w'.heap[k]?=w.heap[k]?)∧w.heap.size≤w'.heap.size∧w'.os=w.os∧w'.tape=w.tape∧w'.output=w.output
theorem ahx {v' v'':Value} {a b c:Nat} (h1:v'.ownBlock=(Value.slice none 0 0).ownBlock∨∀j,v'.ownBlock=some j→a≤j) (h2:v''.ownBlock=v'.ownBlock∨∀j,v''.ownBlock=some j→b≤j) (ha:c≤a) (hb:c≤b):∀j,v''.ownBlock=some j→c≤j:=fun j hj=>by
 rcases h2 with e | e
 ·rw[e] at hj
  rcases h1 with q | q
  ·rw[q] at hj
   cases hj
  ·have:=q j hj
   omega
 ·have:=e j hj
  omega
theorem an5 {M:MS} {w wl wz:World} {hp mb:Nat} {vyo vyf voo vof:Value} {g:Option Addr} {l:List (Option (Nat×Nat×HV))} (hS:RtNow M wl g l l.length) (hr:RtFree w hp mb vyo vyf voo vof g l) (kz:∀k t,Typ w k t→t≠51→wz.heap[k]?=wl.heap[k]?):RtNow M wz g l l.length:=by
 refine⟨fun k r hk=>?_,fun rb ro v hv=>?_,fun rb ro v hv=>?_⟩
 ·obtain⟨gb,go,e,hc⟩:=hS.at' k r hk
  have ht:=hr.gt gb go e (Nat.lt_of_le_of_lt (Nat.zero_le _) (List.getElem?_eq_some_iff.1 hk).1)
  exact⟨gb,go,e,(World.cell?_of_block (a:=⟨gb,go+k,none⟩) (kz gb _ ht (by decide))).trans hc⟩
 ·obtain⟨cs9,hc9⟩:=hr.ty rb ro v hv
  have q:=kz rb _ ⟨_,_,hc9⟩ (by decide)
  obtain⟨x,y,z⟩:=hS.val rb ro v hv
  exact⟨(World.cell?_of_block (a:=⟨rb,ro,none⟩) q).trans x,(World.cell?_of_block (a:=⟨rb,ro+1,none⟩) q).trans y,(World.cell?_of_block (a:=⟨rb,ro+2,none⟩) q).trans z⟩
 ·obtain⟨cs9,hc9⟩:=hr.ty rb ro v hv
  obtain⟨c,hc⟩:=hS.fz rb ro v hv
  exact⟨c,(kz rb _ ⟨_,_,hc9⟩ (by decide)).trans hc⟩
theorem ajz {P:PHp} {T:List HO} {vyo vyf voo vof vn vt vf:Value} {mb:Nat} {ft f0:Int} (h0:f0=P.fy+2*P.Y.length) (h3:ft=P.fo+2*P.O.length) {cs:Array Value} (hcs:cs=((((((zx P vyo vyf voo vof vn mb).setIfInBounds 0 (.int .i64 f0)).setIfInBounds 1 (.slice none 0 0)).setIfInBounds 2 (.slice none 0 0)).setIfInBounds 8 (.slice none 0 0)))) (mj:Int) :
  (((cs.setIfInBounds 3 (.int .i64 ft)).setIfInBounds 4 vt).setIfInBounds 5 vf).setIfInBounds 12 (.int .i64 mj)=zx (abd P T mj) (.slice none 0 0) (.slice none 0 0) vt vf (.slice none 0 0) mb:=by
 subst hcs h0 h3
 refine ahf (by simp[zx]) rfl (fun c hc=>?_)
 match c,hc with
 | 0,_=>simp[zx,abd]
 | 1,_=>simp[zx,abd]
 | 2,_=>simp[zx,abd]
 | 3,_=>simp[zx,abd]
 | 4,_=>simp[zx,abd]
 | 5,_=>simp[zx,abd]
 | 6,_=>simp[zx,abd]
 | 7,_=>simp[zx,abd]
 | 8,_=>simp[zx,abd]
 | 9,_=>simp[zx,abd]
 | 10,_=>simp[zx,abd]
 | 11,_=>simp[zx,abd]
 | 12,_=>simp[zx,abd]
theorem an6 {B:Nat} {w wc w4 w6 w7 w8:World} {hp mb:Nat} {P:PHp} {D:DataW Unit} {n:Nat} {vyo vyf voo vof vn vt6 vf6:Value} {M6:MS} {cs6:Array Value} {l0 wb0 l1 wb1 tb:Nat} (hG:HpG B w hp mb P D n vyo vyf voo vof vn) (q:MajBeg B w wc hp P vyo vyf voo vof l0 wb0 l1 wb1 tb) (hbc:Below wc.heap.size wc w4) {g:Option Addr} {l:List (Option (Nat×Nat×HV))} (hr:RtFree w hp mb vyo vyf voo vof g l)
  (hF:FrM (ab1 wc hp tb l0 wb0 l1 wb1 vyo vyf voo vof) (.slice none 0 0) (.slice none 0 0) w4 w6) (hM6:MvAt B w6 (ab1 wc hp tb l0 wb0 l1 wb1 vyo vyf voo vof) M6 cs6 47 vt6 vf6) (a6:vt6.ownBlock=(Value.slice none 0 0).ownBlock∨∀j,vt6.ownBlock=some j→w4.heap.size≤j) (b6:vf6.ownBlock=(Value.slice none 0 0).ownBlock∨∀j,vf6.ownBlock=some j→w4.heap.size≤j)
  (h67:Below w6.heap.size w6 w7) (hw8:w8=w7.alloc (.cells #[.pointer (some ⟨l0,0,none⟩),.pointer (some ⟨l1,0,none⟩)] 108)):∃p0 p1,M6.L=[p0,p1]∧p0.first=P.fy∧p0.objs.length=P.Y.length∧p1.objs.length=P.O.length∧StAt w8 (ab1 wc hp tb l0 wb0 l1 wb1 vyo vyf voo vof) M6 vt6 vf6 hp mb w7.heap.size ⟨l0,hp,0,wb0,vyo,vyf⟩ p0 l n D:=by
 have h78:Below w7.heap.size w7 w8:=by rw[hw8];exact(Below.refl _ _).alloc (Nat.le_refl _) _
 have h68:Below w6.heap.size w6 w8:=h67.trans (h78.mono h67.size)
 have hs8:w8.heap.size=w7.heap.size+1:=by rw[hw8];simp
 have z1:=q.below.size
 have z2:=hbc.size
 have z3:=hF.size
 have z4:=h67.size
 have hb4:Below w.heap.size w w4:=q.below.trans (hbc.mono z1)
 have up:∀k,k<w.heap.size→w8.heap[k]?=w.heap[k]?:=fun k hk=>by
  rw[h68.block k (by omega),(acb q z2 hk).same hF]
  exact hb4.block k hk
 have ou:∀k,k<w.heap.size→Out (ab1 wc hp tb l0 wb0 l1 wb1 vyo vyf voo vof) vt6 vf6 w8 k:=fun k hk=>((acb q z2 hk).later z3 a6 b6).later h68.size (Or.inl rfl) (Or.inl rfl)
 have tH:Typ w hp 51:=⟨_,_,hG.at'.blk⟩
 obtain⟨es,cl,hm,hrest⟩:=hG.own
 have hrt:∀k,acr l k→Typ w k 69:=fun k ⟨ro,v,hv⟩=>by
  obtain⟨cs,hc⟩:=hr.ty k ro v hv
  exact⟨_,_,hc⟩
 have hlen:=hM6.fr.len
 obtain⟨p0,p1,hp0⟩:∃p0 p1,M6.L=[p0,p1]:=by
  match hL:M6.L,hlen with
  | [a,b],_=>exact⟨a,b,rfl⟩
  | [],z=>simp[ab1] at z
  | [_],z=>simp[ab1] at z
  | _ :: _ :: _ :: _,z=>simp[ab1] at z
 have lv:=hM6.fr.lvs 0 ⟨l0,hp,0,wb0,vyo,vyf⟩ p0 rfl (by rw[hp0];rfl)
 have lo:=hM6.fr.lvs 1 ⟨l1,hp,3,wb1,voo,vof⟩ p1 rfl (by rw[hp0];rfl)
 have e6:w6.heap[hp]?=w.heap[hp]?:=((acb q z2 tH.lt).same hF).trans (hb4.block hp tH.lt)
 refine⟨p0,p1,hp0,?_,?_,?_,⟨?_,⟨es,cl,(up mb (hlt hm)).trans hm,hrest⟩,ou mb (hlt hm),fun z=>abj hm (hrt mb z) rfl,?_,?_,?_,Or.inr (ou hp tH.lt),fun z=>((hrt hp z).ne tH (by decide)) rfl,?_,?_,rfl,by rw[hp0];rfl,⟨rfl,rfl⟩⟩⟩
 ·have e1:w6.cell? ⟨hp,0,none⟩=some (.int .i64 p0.first):=lv.f0
  rw[World.cell?_of_block e6,zd hG.at'.blk] at e1
  have e2:some (Value.int .i64 P.fy)=some (.int .i64 p0.first):=e1
  simpa using e2.symm
 ·obtain⟨g1,c1,q1⟩:=aaa lv.pt.objs
  obtain⟨g2,c2,q2⟩:=aaa hG.at'.yo
  have q1:vyo=.slice g1 p0.objs.length c1:=q1
  rw[q2] at q1
  simp only[Value.slice.injEq] at q1
  exact q1.2.1.symm
 ·obtain⟨g1,c1,q1⟩:=aaa lo.pt.objs
  obtain⟨g2,c2,q2⟩:=aaa hG.at'.oo
  have q1:voo=.slice g1 p1.objs.length c1:=q1
  rw[q2] at q1
  simp only[Value.slice.injEq] at q1
  exact q1.2.1.symm
 ·rw[World.cell?_of_block (up hp tH.lt)]
  exact zd hG.at'.blk 9
 ·refine⟨by omega,fun e=>?_,fun b hb' e=>?_,fun e=>?_,fun e=>?_⟩
  ·have:=hM6.tb_ty.lt
   omega
  ·have:=(hM6.wb_ty hb').lt
   omega
  ·have:=(zu hM6.tpart.objs e).lt
   omega
  ·have:=(zu hM6.tpart.flds e).lt
   omega
 ·intro z
  have:=(hrt _ z).lt
  omega
 ·intro j b hj
  rw[hw8]
  match j with
  | 0=>simp[ab1] at hj;subst hj;exact zd (aan _ _) 0
  | 1=>simp[ab1] at hj;subst hj;exact zd (aan _ _) 1
  | j+2=>simp[ab1] at hj
 ·exact⟨_,_,(up hp tH.lt).trans hG.at'.blk,by simp[zx]⟩
 ·intro e
  have e:hp=tb:=e
  have:=tH.lt
  have:=q.tg
  omega
end
section
open Go.RowKit Go.Maps
theorem agi {x y:HO} (h:hdr y=hdr { x with noted:=false }):y.id=x.id:=by
 unfold hdr at h
 exact(Prod.ext_iff.1 (Prod.ext_iff.1 (Prod.ext_iff.1 h).2).2).1
theorem afo {T:List HO} {x:HO} (hx:x∈T) {v:HV} (hv:v∈x.fs):v∈zg T:=by
 unfold zg
 exact List.mem_flatMap.2 ⟨x,hx,hv⟩
theorem maj_obj {P:PHp} {q:Nat×Nat} {x:HO} (hq:aak (zw P).L q=some x):x∈P.Y++P.O:=by
 unfold aak zw at hq
 obtain⟨i,k⟩:=q
 match i with
 | 0=>exact List.mem_append_left _ (List.mem_of_getElem? (by simpa using hq))
 | 1=>exact List.mem_append_right _ (List.mem_of_getElem? (by simpa using hq))
 | i+2=>simp at hq
theorem ajl {P:PHp} (h2:2≤P.fo) (l:List HV) {M:MS} (e:M=aai (Go.Proofs.YtpnghfghdbijlaaGreatDoor.pot (zv (zw P) l)) (zv (zw P) l) 0):M.T.length≤P.Y.length+P.O.length∧(zg M.T).length≤(zg P.Y).length+(zg P.O).length:=by
 have hz:(zg (zw P).T).length=0:=by simp[zw,zg]
 have hI:=MInv.start (M:=zw P) (abz P) (by simp only[zw];omega)
 obtain⟨h5,_,_,_,p5,_⟩:=hI.roots l
 rw[hz] at h5
 have hc:=(aek (Go.Proofs.YtpnghfghdbijlaaGreatDoor.pot (zv (zw P) l)) h5).trans (ad6 l hI)
 have hp:=(aej (Go.Proofs.YtpnghfghdbijlaaGreatDoor.pot (zv (zw P) l)) h5).trans p5
 rw[←e,(ahw P).1] at hc
 rw[←e,(ahw P).2] at hp
 have q1:=adl M
 have q2:(zg M.T).length≤Go.Proofs.YtpnghfghdbijlaaGreatDoor.pot M:=by unfold Go.Proofs.YtpnghfghdbijlaaGreatDoor.pot;omega
 exact⟨by omega,by omega⟩
theorem MajorPost.next {B:Nat} {w w':World} {hp mb:Nat} {P:PHp} {D:DataW Unit} {n:Nat} {vyo vyf voo vof vn:Value} (h:HpG B w hp mb P D n vyo vyf voo vof vn) {g:Option Addr} {l:List (Option (Nat×Nat×HV))} (q:MajorPost B P D n hp mb g l w w') (htop:P.fo+2*P.O.length+4*(P.Y.length+P.O.length)+2≤4611686018427387904) :
  ∃(M:MS) (n':Nat) (vto' vtf':Value) (mj:Int),HpG B w' hp mb (abd P M.T mj) (abb D M.L) n' (.slice none 0 0) (.slice none 0 0) vto' vtf' (.slice none 0 0)∧n'≤n+(P.Y.length+P.O.length)∧MInv 0 (zg M.T).length M∧Later (zw P).L M.L∧M.ft=P.fo+2*P.O.length∧M=aai (Go.Proofs.YtpnghfghdbijlaaGreatDoor.pot (zv (zw P) (zy l))) (zv (zw P) (zy l)) 0∧(∀rb ro v,some (rb,ro,v)∈l→aa0 M.L v) ∧
  M.T.length≤P.Y.length+P.O.length∧(zg M.T).length≤(zg P.Y).length+(zg P.O).length∧RtNow M w' g l l.length ∧
  (∀j,vto'.ownBlock=some j→w.heap.size≤j)∧(∀j,vtf'.ownBlock=some j→w.heap.size≤j) ∧
  (∀k,k<w.heap.size→k≠hp→k≠mb→¬acr l k→w'.heap[k]?=w.heap[k]?)∧w.heap.size≤w'.heap.size∧w'.os=w.os∧w'.tape=w.tape∧w'.output=w.output:=by
 obtain⟨M,n',vto',vtf',mj,hI,hC,hL,hft,he,hw,hr,hp',hm,hn,a1,a2,hk,hs,o1,o2,o3⟩:=q
 obtain⟨f1,f2⟩:=ajl h.two (zy l) he
 have q1:=h.cnt
 have q2:=h.pot
 have q3:=h.small
 have q4:=q3.y0
 have q5:=q3.y1
 have q6:=q3.yo
 have q7:=q3.oe
 have q8:=q3.o0
 have q9:=h.two
 refine⟨M,n',vto',vtf',mj,⟨hp',hm,fun j hj=>(by cases hj),fun j hj=>(by cases hj),⟨?_,?_,?_,?_,?_,?_⟩,⟨?_,?_⟩,?_,?_,?_,?_,fun x hx=>?_,Nat.le_trans h.hB hs⟩,hn,hI,hL,hft,he,hw,f1,f2,hr,a1,a2,hk,hs,o1,o2,o3⟩
 ·simp only[abd];omega
 ·simp only[abd];omega
 ·simp only[abd,List.length_nil];omega
 ·simp only[abd];omega
 ·simp only[abd];omega
 ·simp only[abd];omega
 ·simp[abd,zg]
 ·simp only[abd];omega
 ·simp only[abd];omega
 ·simp only[abd,List.length_nil];omega
 ·simp only[abd,show zg []=[] from rfl,List.length_nil];omega
 ·simp only[abd,List.length_nil];omega
 ·have hx':x∈M.T:=by simpa [abd] using hx
  obtain⟨t,ht⟩:=List.mem_iff_getElem?.1 hx'
  obtain⟨p,y,_,hy,e⟩:=hI.orig t x (Nat.zero_le _) ht
  rw[hL.objs] at hy
  exact⟨by rw[agi e];exact(h.vals y (maj_obj hy)).1,fun v hv=>hC.nT v (afo hx' hv)⟩
theorem min_obj {P:PHp} {q:Nat×Nat} {x:HO} (hq:aak (aae P).L q=some x):x∈P.Y++P.O:=by
 unfold aak aae at hq
 obtain⟨i,k⟩:=q
 match i with
 | 0=>exact List.mem_append_left _ (List.mem_of_getElem? (by simpa using hq))
 | i+1=>simp at hq
theorem ame (P:PHp):Go.Proofs.YtpnghfghdbijlaaGreatDoor.cnt (aae P)=P.Y.length+P.O.length∧Go.Proofs.YtpnghfghdbijlaaGreatDoor.pot (aae P)=(zg P.Y).length+(zg P.O).length:=by
 constructor
 ·unfold Go.Proofs.YtpnghfghdbijlaaGreatDoor.cnt
  rw[acd _ (acu P)]
  simp[aae,agf]
  omega
 ·unfold Go.Proofs.YtpnghfghdbijlaaGreatDoor.pot ad9
  rw[acd _ (acu P)]
  simp only[aae,List.map_cons,List.map_nil,List.sum_cons,List.sum_nil,ais]
  omega
theorem amf {P:PHp} (h2:2≤P.fo) (l:List HV) {M:MS} (e:M=aai (Go.Proofs.YtpnghfghdbijlaaGreatDoor.pot (zv (aae P) l)-(zg P.O).length) (zv (aae P) l) (zg P.O).length):M.T.length≤P.Y.length+P.O.length∧(zg M.T).length≤(zg P.Y).length+(zg P.O).length:=by
 have hI:=MInv.start (M:=aae P) (acu P) (by simp only[aae];omega)
 obtain⟨h5,_,_,_,p5,_⟩:=hI.roots l
 rw[show zg (aae P).T=zg P.O from rfl] at h5
 have hc:=(aek (Go.Proofs.YtpnghfghdbijlaaGreatDoor.pot (zv (aae P) l)-(zg P.O).length) h5).trans (ad6 l hI)
 have hp:=(aej (Go.Proofs.YtpnghfghdbijlaaGreatDoor.pot (zv (aae P) l)-(zg P.O).length) h5).trans p5
 rw[←e,(ame P).1] at hc
 rw[←e,(ame P).2] at hp
 have q1:=adl M
 have q2:(zg M.T).length≤Go.Proofs.YtpnghfghdbijlaaGreatDoor.pot M:=by unfold Go.Proofs.YtpnghfghdbijlaaGreatDoor.pot;omega
 exact⟨by omega,by omega⟩
theorem MinorPost.next {B:Nat} {w w':World} {hp mb:Nat} {P:PHp} {D:DataW Unit} {n:Nat} {vyo vyf voo vof vn:Value} (h:HpG B w hp mb P D n vyo vyf voo vof vn) {g:Option Addr} {l:List (Option (Nat×Nat×HV))} (q:MinorPost B P D n hp mb g l voo vof w w') (htop:P.fo+4*(P.Y.length+P.O.length)+2≤4611686018427387904) :
  ∃(M:MS) (n':Nat) (vto' vtf':Value) (mn:Int),HpG B w' hp mb (aba P M.T mn) (abb D M.L) n' (.slice none 0 0) (.slice none 0 0) vto' vtf' (.slice none 0 0)∧n'≤n+P.Y.length∧MInv P.O.length (zg M.T).length M∧Later (aae P).L M.L∧M.ft=P.fo∧M=aai (Go.Proofs.YtpnghfghdbijlaaGreatDoor.pot (zv (aae P) (zy l))-(zg P.O).length) (zv (aae P) (zy l)) (zg P.O).length∧(∃r,M.T.map hdr=P.O.map hdr++r)∧(∀i,i<(zg P.O).length→(zg M.T)[i]?=(zg P.O)[i]?)∧(∀rb ro v,some (rb,ro,v)∈l→aa0 M.L v) ∧
  M.T.length≤P.Y.length+P.O.length∧(zg M.T).length≤(zg P.Y).length+(zg P.O).length∧RtNow M w' g l l.length ∧
  (vto'.ownBlock=voo.ownBlock∨∀j,vto'.ownBlock=some j→w.heap.size≤j)∧(vtf'.ownBlock=vof.ownBlock∨∀j,vtf'.ownBlock=some j→w.heap.size≤j) ∧
  (∀k,k<w.heap.size→k≠hp→k≠mb→voo.ownBlock≠some k→vof.ownBlock≠some k→¬acr l k→w'.heap[k]?=w.heap[k]?)∧w.heap.size≤w'.heap.size∧w'.os=w.os∧w'.tape=w.tape∧w'.output=w.output:=by
 obtain⟨M,n',vto',vtf',mn,hI,hC,hL,hft,he,hh,ho,hw,hr,hp',hm,hn,a1,a2,hk,hs,o1,o2,o3⟩:=q
 obtain⟨f1,f2⟩:=amf h.two (zy l) he
 have q1:=h.cnt
 have q2:=h.pot
 have q3:=h.small
 have q4:=q3.y0
 have q5:=q3.y1
 have q6:=q3.yo
 have q7:=q3.oe
 have q8:=q3.o0
 have q9:=h.two
 refine⟨M,n',vto',vtf',mn,⟨hp',hm,fun j hj=>(by cases hj),fun j hj=>(by cases hj),⟨?_,?_,?_,?_,?_,?_⟩,⟨?_,?_⟩,?_,?_,?_,?_,fun x hx=>?_,Nat.le_trans h.hB hs⟩,hn,hI,hL,hft,he,hh,ho,hw,f1,f2,hr,a1,a2,hk,hs,o1,o2,o3⟩
 ·simp only[aba];omega
 ·simp only[aba];omega
 ·simp only[aba,List.length_nil];omega
 ·simp only[aba];omega
 ·simp only[aba];omega
 ·simp only[aba];omega
 ·simp[aba,zg]
 ·simp only[aba];omega
 ·simp only[aba];omega
 ·simp only[aba,List.length_nil];omega
 ·simp only[aba,show zg []=[] from rfl,List.length_nil];omega
 ·simp only[aba,List.length_nil];omega
 ·have hx':x∈M.T:=by simpa [aba] using hx
  obtain⟨t,ht⟩:=List.mem_iff_getElem?.1 hx'
  refine⟨?_,fun v hv=>hC.nT v (afo hx' hv)⟩
  by_cases hlt:t<P.O.length
  ·obtain⟨r,e⟩:=hh
   have q:(M.T.map hdr)[t]?=some (hdr x):=by rw[List.getElem?_map,ht];rfl
   rw[e,List.getElem?_append_left (by simpa using hlt),List.getElem?_map,List.getElem?_eq_getElem hlt] at q
   have q':hdr (P.O[t])=hdr x:=by simpa using q
   have:x.id=(P.O[t]).id:=by
    unfold hdr at q'
    exact((Prod.ext_iff.1 (Prod.ext_iff.1 (Prod.ext_iff.1 q').2).2).1).symm
   rw[this]
   exact(h.vals _ (List.mem_append_right _ (List.getElem_mem hlt))).1
  ·obtain⟨p,y,_,hy,e⟩:=hI.orig t x (by omega) ht
   rw[hL.objs] at hy
   rw[agi e]
   exact(h.vals y (min_obj hy)).1
end
section
open Go.RowKit Go.Maps
theorem ael (L:List PL) (v:HV):(phi L v).kind=v.kind∧(v.kind≠4→phi L v=v):=by
 unfold phi
 constructor
 ·split
  ·rfl
  ·split
   ·rfl
   ·split <;> rfl
 ·intro h
  rw[if_pos h]
theorem aii {P:PHp} (hY:P.Y=[]) {t:Nat} {y:HO} (h:P.O[t]?=some y):aao P (P.fo+2*t)=some y:=by
 unfold aao
 rw[hY,ab6 (fun i hi=>by simp at hi),aa3.2 ⟨(List.getElem?_eq_some_iff.1 h).1,rfl⟩]
 exact h
theorem ahg {P:PHp} (hY:P.Y=[]) {a:Int} {y:HO} (h:aao P a=some y):∃t:Nat,P.O[t]?=some y∧a=P.fo+2*t:=by
 unfold aao at h
 rw[hY,ab6 (fun i hi=>by simp at hi)] at h
 simp only at h
 cases hq:acf P.fo P.O.length a with
 | none=>rw[hq] at h;cases h
 | some i =>
  rw[hq] at h
  exact⟨i,h,(aa3.1 hq).2⟩
def Cover (P:PHp) (L:List PL):Prop:=∀a x,aao P a=some x↔∃q,aab L 0 a=some q∧aak L q=some x
theorem Cover.later {P:PHp} {L L':List PL} (h:Cover P L) (l:Later L L'):Cover P L':=fun a x=>by
 rw[h a x]
 constructor
 ·rintro ⟨q,h1,h2⟩
  exact⟨q,by rw[l.leads];exact h1,by rw[l.objs];exact h2⟩
 ·rintro ⟨q,h1,h2⟩
  exact⟨q,by rw[←l.leads];exact h1,by rw[←l.objs];exact h2⟩
def RIn (S:List Int) (L:List PL) (v:HV):Prop:=v.kind=4→∀q x,aab L 0 v.n=some q→aak L q=some x→x.id∈S
def adp (S:List Int) (L:List PL):Prop:=∀q x,aaf L q≠0→aak L q=some x→x.id∈S
def ClosedL (S:List Int) (L:List PL):Prop:=∀q x,aak L q=some x→x.id∈S→∀u∈x.fs,RIn S L u
theorem RIn.later {S:List Int} {L L':List PL} {v:HV} (h:RIn S L v) (l:Later L L'):RIn S L' v:=fun hk q x h1 h2=>h hk q x (by rw[←l.leads];exact h1) (by rw[←l.objs];exact h2)
theorem ClosedL.later {S:List Int} {L L':List PL} (h:ClosedL S L) (l:Later L L'):ClosedL S L':=fun q x h1 h2 u hu=>(h q x (by rw[←l.objs];exact h1) h2 u hu).later l
theorem ait:∀(l:List HO) (s:Nat),s<(zg l).length→∃(t:Nat) (y:HO) (k:Nat),l[t]?=some y∧k<y.fs.length∧zm l t+k=s
 | [],s,h=>by simp[zg] at h
 | x :: r,s,h=>by
  by_cases hs:s<x.fs.length
  ·exact⟨0,x,s,rfl,hs,by simp[zm,zg]⟩
  ·obtain⟨t,y,k,h1,h2,h3⟩:=ait r (s-x.fs.length) (by simp[zg] at h ⊢;omega)
   refine⟨t+1,y,k,h1,h2,?_⟩
   unfold zm at *
   simp only[List.take_succ_cons,zg,List.flatMap_cons,List.length_append] at h3 ⊢
   omega
theorem ah8 {q:Nat} {a:Int}:∀(L:List PL) (k:Nat),(L.modify k fun p=>{ p with went:=p.went.set q a }).map PL.objs=L.map PL.objs
 | [],k=>by simp
 | p :: r,0=>by simp
 | p :: r,k+1=>by simp[ah8 r k]
theorem aj2 (M:MS) (v:HV):(aaj M v).1.L.map PL.objs=M.L.map PL.objs:=by
 unfold aaj
 split
 ·rfl
 ·split
  ·rfl
  ·split
   ·rfl
   ·split
    ·rfl
    ·exact ah8 _ _
theorem am0 (M:MS) (i:Nat):(aby M i).L.map PL.objs=M.L.map PL.objs:=by
 unfold aby
 split
 ·rfl
 ·exact aj2 _ _
theorem afx:∀(f:Nat) (M:MS) (s:Nat),(aai f M s).L.map PL.objs=M.L.map PL.objs
 | 0,_,_=>rfl
 | f+1,M,s=>by
  rw[aai]
  split
  ·rw[afx f,am0]
  ·rfl
theorem afc:∀(l:List HV) (M:MS),(zv M l).L.map PL.objs=M.L.map PL.objs
 | [],_=>rfl
 | v :: l,M=>(afc l (aaj M v).1).trans (aj2 M v)
def Z (L:List PL):List (HO×Int):=L.flatMap fun p=>p.objs.zip p.went
theorem aik:∀(L:List PL) (D:DataW Unit),abb D L=(Z L).foldl (fun D p=>abg D p.1 p.2) D
 | [],D=>rfl
 | p :: r,D=>by
  show abb (age D p) r=((p.objs.zip p.went)++Z r).foldl _ D
  rw[List.foldl_append,aik r]
  rfl
theorem aiv:∀{L:List PL},Full L→(Z L).map Prod.fst=(L.map PL.objs).flatten
 | [],_=>rfl
 | p :: r,h=>by
  have h1:=h p (List.mem_cons_self ..)
  show ((p.objs.zip p.went)++Z r).map Prod.fst=p.objs++(r.map PL.objs).flatten
  rw[List.map_append,aiv (fun q hq=>h q (List.mem_cons_of_mem _ hq)),List.map_fst_zip (by omega)]
theorem afy {L:List PL} (hf:Full L) {x:HO} {a:Int}:(x,a)∈Z L↔∃q,aak L q=some x∧aaf L q=a:=by
 unfold Z
 rw[List.mem_flatMap]
 constructor
 ·rintro ⟨p,hp,hz⟩
  obtain⟨j,hj⟩:=List.getElem?_of_mem hp
  obtain⟨i,hi⟩:=List.getElem?_of_mem hz
  rw[List.getElem?_zip_eq_some] at hi
  exact⟨(j,i),by simp[aak,hj,hi.1],by simp[aaf,hj,hi.2]⟩
 ·rintro ⟨q,h1,h2⟩
  unfold aak at h1
  cases hL:L[q.1]? with
  | none=>rw[hL] at h1;cases h1
  | some p =>
   rw[hL] at h1
   have h1:p.objs[q.2]?=some x:=h1
   have hlen:=hf p (List.mem_of_getElem? hL)
   have hi:=(List.getElem?_eq_some_iff.1 h1).1
   have h3:p.went[q.2]?=some a:=by
    unfold aaf at h2
    rw[hL] at h2
    have h2:(p.went[q.2]?).getD 0=a:=h2
    rw[List.getElem?_eq_getElem (by omega)] at h2 ⊢
    exact congrArg some h2
   refine⟨p,List.mem_of_getElem? hL,List.mem_of_getElem? (i:=q.2) ?_⟩
   rw[List.getElem?_zip_eq_some]
   exact⟨h1,h3⟩
end
section
open Go.RowKit Go.Maps
theorem afd:∀{l l':List Int},l.Nodup→(∀a∈l,a∈l')→l.length≤l'.length
 | [],_,_,_=>Nat.zero_le _
 | a :: r,l',h,hs=>by
  have h':=List.nodup_cons.1 h
  have ha:=hs a (List.mem_cons_self ..)
  have h1:=afd (l:=r) (l':=l'.erase a) h'.2 (fun b hb=>(List.mem_erase_of_ne (by rintro rfl;exact h'.1 hb)).2 (hs b (List.mem_cons_of_mem _ hb)))
  rw[List.length_erase_of_mem ha] at h1
  have:=List.length_pos_of_mem ha
  simp only[List.length_cons]
  omega
structure Good (P:PHp) (D:DataW Unit):Prop where
 nd:((P.Y++P.O).map HO.id).Nodup
 pos:∀x∈P.Y++P.O,0<x.id∧x.id≤1000
 keys:∀a,Maps.has D (.int .i64 a)=true↔∃o∈P.Y++P.O,o.id=a
 tied:Tied P
theorem amg {P:PHp} (hs:Small P) {x:HO} (hx:x∈P.Y++P.O):∃b,aao P b=some x:=by
 have h1:=hs.yo
 have h2:=hs.oe
 rcases List.mem_append.1 hx with q | q
 ·obtain⟨i,hi⟩:=List.getElem?_of_mem q
  refine⟨P.fy+2*i,?_⟩
  unfold aao
  rw[aa3.2 ⟨(List.getElem?_eq_some_iff.1 hi).1,rfl⟩]
  exact hi
 ·obtain⟨i,hi⟩:=List.getElem?_of_mem q
  refine⟨P.fo+2*i,?_⟩
  unfold aao
  rw[ab6 (fun k hk=>by omega),aa3.2 ⟨(List.getElem?_eq_some_iff.1 hi).1,rfl⟩]
  exact hi
section
variable {P P':PHp} {D:DataW Unit} {M:MS}
end
theorem aj4 (P:PHp):Cover P (zw P).L:=fun a x=>by
 unfold aao zw aab aab aab
 cases h1:acf P.fy P.Y.length a with
 | some i =>
  simp only[Option.some.injEq]
  constructor
  ·intro h
   exact⟨(0,i),rfl,by simpa [aak] using h⟩
  ·rintro ⟨q,rfl,h⟩
   simpa [aak] using h
 | none =>
  simp only
  cases h2:acf P.fo P.O.length a with
  | some i =>
   simp only[Option.some.injEq]
   constructor
   ·intro h
    exact⟨(1,i),rfl,by simpa [aak] using h⟩
   ·rintro ⟨q,rfl,h⟩
    simpa [aak] using h
  | none=>simp
structure Kept (P P':PHp) (D':DataW Unit) (f:Nat) (root':HV) (out seen:List Int):Prop where
 good:Good P' D'
 shape:shp P' f root' []=some (out,seen)
 leads:adw P' root'
 fuel:aci (P'.Y++P'.O) []<f
end
section
open Go.RowKit Go.Maps
def acv:HV:=⟨0,0,ByteArray.empty⟩
def aay (sz:Nat):List HV:=List.replicate sz acv
def aa9 (sz:Nat):Array Value:=((aay sz).flatMap aaw).toArray
theorem apr (sz:Nat):((aay sz).flatMap aaw).length=sz*3:=by
 unfold aay
 induction sz with
 | zero=>rfl
 | succ n ih=>rw[List.replicate_succ,List.flatMap_cons,List.length_append,ih];simp[aaw];omega
theorem an9 (sz:Nat):madeCells #[.int .i64 0,.int .i64 0,.string ByteArray.empty] (sz*3)=aa9 sz:=by
 apply Array.ext_getElem?
 intro i
 by_cases hi:i<sz*3
 ·have hk:(aay sz)[i / 3]?=some acv:=by
   unfold aay
   rw[List.getElem?_replicate,if_pos (by omega)]
  have hv:=ac6 hk (j:=i % 3) (by omega)
  rw[show i / 3*3+i % 3=i by omega] at hv
  unfold aa9 madeCells
  rw[show ((aay sz).flatMap aaw).toArray[i]?=(aaw acv)[i % 3]? from (List.getElem?_toArray).trans hv,Array.getElem?_map,Array.getElem?_range,if_pos hi]
  have:i % 3=0∨i % 3=1∨i % 3=2:=by omega
  rcases this with e | e | e <;> simp[e,aaw,acv]
 ·rw[Array.getElem?_eq_none (by rw[size_madeCells];omega),Array.getElem?_eq_none (by unfold aa9;simp only[List.size_toArray];rw[apr];omega)]
theorem aps:(prog.info? 69).map (fun i=>(i.zero,i.size,i.bytes))=some (some (.agg #[.int .i64 0,.int .i64 0,.string ByteArray.empty]),3,32):=by kernel_rfl
theorem ae3 {sz:Nat} (hsz:sz≤1000) (w:World):(Go.Instr.makeSlice 32 (.int .i64 sz) (.int .i64 sz)).run prog w=.ok (.slice (some ⟨w.heap.size,0,none⟩) sz sz) (w.alloc (.cells (aa9 sz) 69)):=by
 have hi:=aps
 cases hq:prog.info? 69 with
 | none=>rw[hq] at hi;cases hi
 | some i =>
  rw[hq] at hi
  simp only[Option.map_some,Option.some.injEq,Prod.mk.injEq] at hi
  obtain⟨h1,h2,h3⟩:=hi
  have:=run_makeSlice (P:=prog) w 32 69 i _ underlying32 hq h1 .i64 .i64 sz sz (by omega) (Int.le_refl _) (by rw[h2];omega) (by rw[h3];omega) (by omega)
  rw[this,h2,Int.toNat_natCast]
  rw[show (Value.agg #[.int .i64 0,.int .i64 0,.string ByteArray.empty]).cells=#[.int .i64 0,.int .i64 0,.string ByteArray.empty] from rfl,an9]
end
end Go.Proofs.YtpnghfghdbijlaaGreatDoor
