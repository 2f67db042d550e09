/- A part. -/
import Derived.Test.YtpnghfghdbijlaaGreatDoorM18
open Go.Proofs.Tryz
namespace Go.Proofs.YtpnghfghdbijlaaGreatDoor
open Go.RowKit
set_option linter.unusedVariables false
set_option linter.unusedSimpArgs false
set_option maxRecDepth 100000
set_option maxHeartbeats 40000000
section
open Go.RowKit Go.Maps
theorem infoPT:(prog.info? 63).map (fun i=>(i.zero,i.size,i.bytes))=some (some (.pointer none),1,8):=by kernel_rfl
theorem akh:(prog.info? 4).map (fun i=>(i.zero,i.size,i.bytes))=some (some (.bool false),1,1):=by kernel_rfl
theorem ag3 {w w':World} {v:Value} (hg:w.grownBy w' v.ownBlock) {k:Nat} {o:Obj} (hb:w.heap[k]?=some o) (hne:v.ownBlock≠some k):w'.heap[k]?=some o:=(hg.block k (hlt hb) fun e=>hne e.symm).trans hb
theorem ac5 {w:World} (o':Obj) {k:Nat} {o:Obj} (hb:w.heap[k]?=some o):(w.alloc o').heap[k]?=some o:=(((Below.refl _ _).alloc (Nat.le_refl _) o').block k (hlt hb)).trans hb
section
variable {B:Nat} {w0 w w':World} {a b a' b':Value} {ea eb:TypeId} {ka kb na nb:Nat} {xa xb:List Value}
theorem Pr.cell (h:Pr B w0 w a b a' b' ea eb ka kb na nb xa xb) {c:Addr} {v:Value} (hc:w0.cell? c=some v) (h1:a.ownBlock≠some c.block) (h2:b.ownBlock≠some c.block):w.cell? c=some v:=(World.cell?_of_block (h.fr c.block (ze hc) h1 h2)).trans hc
theorem Pr.heap (h:Pr B w0 w a b a' b' ea eb ka kb na nb xa xb) {zb:Nat} {m:ZM} {P:PHp} {D:DataW Unit} (g:HpG B w0 m.hp m.mb P D m.n m.vyo m.vyf m.voo m.vof m.vn) (hz:OutH m zb) (h1:∀j,a.ownBlock=some j→OutH m j) (h2:∀j,b.ownBlock=some j→OutH m j) (ho:∀k,k≠zb→w'.heap[k]?=w.heap[k]?) (hs:w.heap.size≤w'.heap.size):HpG B w' m.hp m.mb P D m.n m.vyo m.vyf m.voo m.vof m.vn :=
 g.far (fun k hk hn=>(ho k fun e=>hn (e ▸ hz)).trans (h.fr k hk (fun e=>hn (h1 k e)) (fun e=>hn (h2 k e)))) (Nat.le_trans h.sz hs)
theorem Pr.low (h:Pr B w0 w a b a' b' ea eb ka kb na nb xa xb) {zb:Nat} (h0:B≤w0.heap.size) (hz:B≤zb) (h1:∀j,a.ownBlock=some j→B≤j) (h2:∀j,b.ownBlock=some j→B≤j) (ho:∀k,k≠zb→w'.heap[k]?=w.heap[k]?) (hs:w.heap.size≤w'.heap.size) (e1:w'.os=w.os) (e2:w'.tape=w.tape) (e3:w'.output=w.output):Below B w0 w' :=
 ⟨e1.trans h.os,e2.trans h.tp,e3.trans h.out,Nat.le_trans h.sz hs,fun k hk=>(ho k (by omega)).trans (h.fr k (by omega) (fun e=>by have:=h1 k e;omega) (fun e=>by have:=h2 k e;omega))⟩
end
def set2 (w:World) (zb i j:Nat) (x y:Value):World:=(w.setCell ⟨zb,i,none⟩ x).setCell ⟨zb,j,none⟩ y
theorem aeq (w:World) (zb i j:Nat) (x y:Value):∀k,k≠zb→(set2 w zb i j x y).heap[k]?=w.heap[k]?:=fun k hk=>(zo _ hk).trans (zo _ hk)
theorem af5 (w:World) (zb i j:Nat) (x y:Value):w.heap.size≤(set2 w zb i j x y).heap.size:=by simp[set2,World.setCell]
theorem amm {w:World} {zb:Nat} {cs:Array Value} {t:TypeId} {fr:Nat×Nat} (h:w.heap[zb]?=some (.cells cs t fr)) (i j:Nat) (x y:Value):(set2 w zb i j x y).heap[zb]?=some (.cells ((cs.setIfInBounds i x).setIfInBounds j y) t fr):=aad (aad h i x) j y
structure Zh (B:Nat) (w w':World) (zb:Nat) (m:ZM) (P:PHp) (D:DataW Unit) (N:ZN) (T:List Th) (wh:List HV) (here known:List Bool):Prop where
 hg:HpG B w' m.hp m.mb P D m.n m.vyo m.vyf m.voo m.vof m.vn
 zr:ZR B w' zb m N T wh here known
 bl:Below B w w'
section
variable {B:Nat} {w wc:World} {zb tb:Nat} {m:ZM} {P:PHp} {D:DataW Unit} {N:ZN} {T:List Th} {wh:List HV} {here known:List Bool}
theorem Zh.drew (h:Zh B w wc zb m P D N T wh here known):Zh B w wc.drew zb m P D N T wh here known:=⟨h.hg.keep (Below.refl _ _).drew,h.zr.keep (Below.refl _ _).drew,h.bl.drew⟩
theorem Zh.zout (h:Zh B w wc zb m P D N T wh here known):OutH m zb:=h.zr.out h.hg (Or.inl rfl)
theorem Zh.things (h:Zh B w wc zb m P D N T wh here known) {vi:Value} {t:Th} (k:MkT B wc zb tb m vi t) {vt' vw':Value} {v:HV} {w1:World} (p:Pr B wc w1 m.vt m.vw vt' vw' 63 69 1 3 (T.length+1) (wh.length+1) (m.bs.map pv++[pv tb]) (wh.flatMap aaw++aaw v)) :
  Zh B w (set2 w1 zb 1 2 vt' vw') zb { m with vt:=vt',vw:=vw',bs:=m.bs++[tb],vis:=m.vis++[vi] } P D N (T++[t]) (wh++[v]) here known:=by
 have hb1:w1.heap[zb]?=wc.heap[zb]?:=p.fr zb (hlt h.zr.blk) (h.zr.zbt h.zr.th (by decide)) (h.zr.zbt h.zr.wr (by decide))
 refine⟨p.heap (m:=m) h.hg h.zout (fun j hj=>h.zr.out h.hg (Or.inr (Or.inl hj))) (fun j hj=>h.zr.out h.hg (Or.inr (Or.inr (Or.inl hj)))) (aeq _ _ _ _ _ _) (af5 _ _ _ _ _ _),?_,h.bl.trans (p.low h.hg.hB h.zr.zl (fun j hj=>(zp h.zr.th j hj).1) (fun j hj=>(zp h.zr.wr j hj).1) (aeq _ _ _ _ _ _) (af5 _ _ _ _ _ _) rfl rfl rfl)⟩
 refine h.zr.things h.hg p k.bk k.iv' k.tl k.nb k.nv k.nn ?_ (aeq _ _ _ _ _ _)
 have:=amm (hb1.trans h.zr.blk) 1 2 vt' vw'
 simpa [adc] using this
theorem Zh.flags (h:Zh B w wc zb m P D N T wh here known) {vh' vk':Value} {b c:Bool} {w1:World} (p:Pr B wc w1 m.vh m.vk vh' vk' 4 4 1 1 (here.length+1) (known.length+1) (here.map Value.bool++[.bool b]) (known.map Value.bool++[.bool c])) :
  Zh B w (set2 w1 zb 3 4 vh' vk') zb { m with vh:=vh',vk:=vk' } P D N T wh (here++[b]) (known++[c]):=by
 have hb1:w1.heap[zb]?=wc.heap[zb]?:=p.fr zb (hlt h.zr.blk) (h.zr.zbt h.zr.hr (by decide)) (h.zr.zbt h.zr.kr (by decide))
 refine⟨p.heap (m:=m) h.hg h.zout (fun j hj=>h.zr.out h.hg (Or.inr (Or.inr (Or.inr (Or.inl hj))))) (fun j hj=>h.zr.out h.hg (Or.inr (Or.inr (Or.inr (Or.inr (Or.inl hj)))))) (aeq _ _ _ _ _ _) (af5 _ _ _ _ _ _),?_,h.bl.trans (p.low h.hg.hB h.zr.zl (fun j hj=>(zp h.zr.hr j hj).1) (fun j hj=>(zp h.zr.kr j hj).1) (aeq _ _ _ _ _ _) (af5 _ _ _ _ _ _) rfl rfl rfl)⟩
 refine h.zr.flags p ?_ (aeq _ _ _ _ _ _)
 have:=amm (hb1.trans h.zr.blk) 3 4 vh' vk'
 simpa [adc] using this
theorem Zh.num (h:Zh B w wc zb m P D N T wh here known) {N':ZN} (i:Nat) (x:Value) (hc:(adc m N).setIfInBounds i x=adc m N'):Zh B w (wc.setCell ⟨zb,i,none⟩ x) zb m P D N' T wh here known:=by
 have hs:(wc.setCell ⟨zb,i,none⟩ x).heap.size=wc.heap.size:=by simp[World.setCell]
 refine⟨h.hg.far (fun k _ hn=>zo _ fun e=>hn (e ▸ h.zout)) (by rw[hs];exact Nat.le_refl _),h.zr.nums ?_ (fun k hk _=>zo _ hk),h.bl.trans ⟨rfl,rfl,rfl,by rw[hs];exact Nat.le_refl _,fun k hk=>zo _ (by have:=h.zr.zl;omega)⟩⟩
 rw[←hc]
 exact aad h.zr.blk i x
theorem MkT.num {vi:Value} {t:Th} (k:MkT B wc zb tb m vi t) (z:ZR B wc zb m N T wh here known) (i:Nat) (x:Value):MkT B (wc.drew.setCell ⟨zb,i,none⟩ x) zb tb m vi t:=by
 have k':=k.keep (Below.refl _ _).drew
 refine⟨(zo _ fun e=>?_).trans k'.bk,zs k'.iv' fun j hj=>zo _ fun e=>?_,k.tl,k.nb,k.nv,k.nn⟩
 ·have h1:=k.bk
  rw[e,z.blk] at h1
  injection h1 with h1
  injection h1 with _ h1 _
  exact absurd h1 (by decide)
 ·obtain⟨_,_,cs,h1⟩:=zp k.iv' j hj
  rw[e,z.blk] at h1
  injection h1 with h1
  injection h1 with _ h1 _
  exact absurd h1 (by decide)
theorem Zh.next {k:Nat} {s:ZS} {m0:ZM} (h0:ZAt B k w zb m0 s) (hk:k<60) {P':PHp} {D':DataW Unit} {id a b:Int} {sz:Nat} (hsz:sz≤1000) (ha:1≤a∧a≤4)
  (pe:P'.Y=s.P.Y++[⟨a,b,id,aay sz,false⟩]∧P'.O=s.P.O∧P'.fy=s.P.fy∧P'.fo=s.P.fo∧P'.noted=s.P.noted∧P'.ry=s.P.ry∧P'.ro=s.P.ro∧P'.minors=s.P.minors∧P'.majors=s.P.majors)
  (pd:(id=0∧a=4∧P'.last=s.P.last∧D'=s.D)∨(id=s.P.last+1∧a≠4∧P'.last=s.P.last+1∧D'=s.D.put (.int .i64 (s.P.last+1)) (.lit (.int .i64 (s.P.fy+2*s.P.Y.length))))) (hn:m.n≤m0.n+1∧m.hp=m0.hp)
  {N':ZN} (hN:N'={ aau s.P with top:=((s.P.Y.length+(zg s.P.Y).length:Nat):Int)+1+sz }) (h:Zh B w wc zb m P' D' N' (s.T++[⟨a,b,id,false,List.replicate sz 0⟩]) (s.wh++[toA (s.P.fy+2*s.P.Y.length)]) (s.here++[true]) (s.known++[true])):ZNext B (k+1) zb w wc:=by
 obtain⟨e1,e2,e3,e4,e5,e6,e7,e8,e9⟩:=pe
 have f:=h0.fw
 have f1:=f.k60
 have f2:=f.t
 have f3:=f.c
 have f4:=f.f
 have f5:=f.y
 have f6:=f.o
 have f7:=f.n
 have f8:=f.nt
 have hY:P'.Y.length=s.P.Y.length+1:=by rw[e1];simp
 have hF:(zg P'.Y).length=(zg s.P.Y).length+sz:=by rw[e1];simp[zg,aay]
 have hNum:N'=aau P':=by
  rw[hN]
  unfold aau
  rw[hY,hF,e2,e6,e7,e8,e9]
  simp only[ZN.mk.injEq,true_and,and_true]
  omega
 refine⟨m,⟨P',D',_,_,_,_,_⟩,⟨h.hg,by rw[←hNum];exact h.zr,h0.zi.alloc h0.hg.small ha hsz e1 e2 e3 e4 e5 (pd.imp (fun q=>⟨q.1,q.2.2.1,q.2.2.2⟩) (fun q=>⟨q.1,q.2.2.1,q.2.2.2⟩)),?_⟩,h.bl,h0.zr.hp0 h.zr hn.2⟩
 have hn:=hn.1
 refine⟨by omega,by simp;omega,by rw[hY,e2];omega,by rw[hF,e2];omega,by rw[hY,e3];omega,by rw[e2,e4];omega,by omega,by rw[e5];omega,by rw[e6,e7];exact f.rm⟩
end
end
theorem ale {w:World} {a:Int} {n:Nat} (h0:0<n) (h1:n≤1000000) :
  Calls prog 34 #[.int .i64 a,.int .i64 n] w fun e w'=>e=.returned (.int .i64 ((a % 18446744073709551616) % n))∧w'=w:=by
 go_enter func34,ntmps34
 go_wp2_with fail
 have e1:IntKind.u64.wrap a=a % 18446744073709551616:=by kernel_rfl
 have g0:0≤a % 18446744073709551616:=Int.emod_nonneg _ (by decide)
 have e2:(a % 18446744073709551616).tmod (n:Int)=a % 18446744073709551616 % n:=Int.tmod_eq_emod_of_nonneg g0
 have r0:0≤a % 18446744073709551616 % (n:Int):=Int.emod_nonneg _ (by omega)
 have r1:a % 18446744073709551616 % (n:Int)<n:=Int.emod_lt_of_pos _ (by omega)
 have e3:wrap64 (a % 18446744073709551616 % (n:Int))=a % 18446744073709551616 % n:=by unfold wrap64;omega
 rw[e1,e2,e3]
 go_ret
 exact⟨rfl,rfl⟩
section
open Go.RowKit Go.Maps
structure SameP (P P':PHp):Prop where
 fy:P'.fy=P.fy
 fo:P'.fo=P.fo
 ry:P'.ry=P.ry
 ro:P'.ro=P.ro
 yl:P'.Y.length=P.Y.length
 ol:P'.O.length=P.O.length
 yf:(zg P'.Y).length=(zg P.Y).length
 of':(zg P'.O).length=(zg P.O).length
 la:P'.last=P.last
 mn:P'.minors=P.minors
 mj:P'.majors=P.majors
 nt:P'.noted.length≤P.noted.length+1
theorem SameP.nums {P P':PHp} (h:SameP P P'):aau P'=aau P:=by
 unfold aau
 rw[h.ro,h.ry,h.yl,h.yf,h.ol,h.of',h.mn,h.mj]
def SetZ (B:Nat) (w:World) (m:ZM) (P:PHp) (D:DataW Unit) (a:Int) (k:Nat) (v:HV) (w':World):Prop :=
 ∃P' vn',HpG B w' m.hp m.mb P' D m.n m.vyo m.vyf m.voo m.vof vn'∧SetAt1 P P' a k v∧NtOk P'∧SameP P P' ∧
  (∀k,k<w.heap.size→OutH m k→w'.heap[k]?=w.heap[k]?)∧OwnNew w m.vn vn'∧w.heap.size≤w'.heap.size∧w'.os=w.os∧w'.tape=w.tape∧w'.output=w.output
theorem adr {P:PHp} (hs:Small P) {a:Int} {x:HO} (hx:aao P a=some x) {r:Option (Bool×Nat)} (h:Found P a r):∃b,aa5 P r=some (b,x):=by
 have:=amy hs h
 rw[hx] at this
 cases e:aa5 P r with
 | none=>rw[e] at this;cases this
 | some z =>
  rw[e] at this
  obtain⟨b,y⟩:=z
  have this:some y=some x:=this
  cases this
  exact⟨b,rfl⟩
theorem ai8 {B:Nat} {w w':World} {m:ZM} {P:PHp} {D:DataW Unit} (hs:Small P) (nt:NtOk P) {j k:Nat} {x:HO} (hx:P.Y[j]?=some x) (hk:k<x.fs.length) {v:HV} (h:SetG B w m.hp m.mb P D m.n (zm P.Y j+k) v m.vyo m.vyf m.voo m.vof m.vn w'):SetZ B w m P D (P.fy+2*j) k v w':=by
 obtain⟨q1,q2,q3,q4,q5,q6⟩:=h
 refine⟨_,m.vn,q1,SetAt1.young hs hx hk v,nt.young _ v,⟨rfl,rfl,rfl,rfl,abr _ _ _,rfl,?_,rfl,rfl,rfl,rfl,Nat.le_succ _⟩,fun k hk ho=>q2 k hk ho.yf,Or.inl rfl,q3,q4,q5,q6⟩
 show (zg (aah _ _ _)).length=_
 rw[abw,List.length_set]
theorem alf {B:Nat} {w w':World} {m:ZM} {P:PHp} {D:DataW Unit} (hs:Small P) (nt:NtOk P) {j k:Nat} {x:HO} (hx:P.O[j]?=some x) (hk:k<x.fs.length) {v:HV} (h:SetO B w m.hp m.mb P D m.n j x (zm P.O j+k) v m.vyo m.vyf m.voo m.vof m.vn w'):SetZ B w m P D (P.fo+2*j) k v w':=by
 obtain⟨P2,vn',q0,q1,q2,q3,q4,q5,q6,q7⟩:=h
 have hfl:(zg (aah P.O (zm P.O j+k) v)).length=(zg P.O).length:=by rw[abw,List.length_set]
 rcases q0 with ⟨rfl,hc⟩ | ⟨h4,hin,hxn,rfl⟩
 ·exact⟨_,vn',q1,SetAt1.old hs hx hk v rfl rfl rfl (fun m y hy=>⟨y,hy,rfl,rfl,rfl,rfl⟩) (abr _ _ _),nt.oset hx hk hc,⟨rfl,rfl,rfl,rfl,rfl,abr _ _ _,rfl,hfl,rfl,rfl,rfl,Nat.le_succ _⟩,fun k hk ho=>q2 k hk ho.hp ho.oo ho.of' ho.nt,q7,q3,q4,q5,q6⟩
 ·refine⟨_,vn',q1,SetAt1.old hs hx hk v rfl rfl rfl (fun n y hy=>?_) ?_,nt.note hx hk hxn,⟨rfl,rfl,rfl,rfl,rfl,?_,rfl,?_,rfl,rfl,rfl,?_⟩,fun k hk ho=>q2 k hk ho.hp ho.oo ho.of' ho.nt,q7,q3,q4,q5,q6⟩
  ·show ∃y':HO,(aam true (aah P.O (zm P.O j+k) v) j)[n]?=some y'∧_
   rw[ae4]
   by_cases e:n=j
   ·rw[if_pos e,hy]
    exact⟨_,rfl,rfl,rfl,rfl,rfl⟩
   ·rw[if_neg e,hy]
    exact⟨_,rfl,rfl,rfl,rfl,rfl⟩
  ·show (aam true (aah _ _ _) j).length=_
   rw[acn,abr]
  ·show (aam true (aah _ _ _) j).length=_
   rw[acn,abr]
  ·show (zg (aam true (aah _ _ _) j)).length=_
   rw[ack]
   exact hfl
  ·show (P.noted++[_]).length≤_
   simp
theorem set_ok {B:Nat} {w:World} {m:ZM} {P:PHp} {D:DataW Unit} {T:List Th} {wh:List HV} {here known:List Bool} {ad:Nat→Int} (h:HpG B w m.hp m.mb P D m.n m.vyo m.vyf m.voo m.vof m.vn) (z:Zi P D T wh here known ad) (hnl:P.noted.length≤1000) {i k:Nat} {t:Th} (ht:T[i]?=some t) (hi:here[i]?=some true) (hk:k<t.is.length) {c:Int} {v:HV} (hf:Fld here ad c v) (hv:I64 v.n) (hc:c=-1∨0<c) :
  Calls prog 35 #[.pointer (some ⟨m.hp,0,none⟩),.int .i64 (ad i),.int .i64 (k:Int),.agg #[.int .i64 v.kind,.int .i64 v.n,.string v.s]] w fun e w'=>e=.returned .nilIface∧SetZ B w m P D (ad i) k v w':=by
 obtain⟨x,hx,q⟩:=z.rep.obj i t ht hi
 have hkx:k<x.fs.length:=by rw[q.len];exact hk
 have hs:=h.small
 -- where it leads
 have lead:v.kind=4→∀r,Found P v.n r→∃b y,aa5 P r=some (b,y)∧y.kind≠0:=fun h4 r hr=>by
  rcases hc with rfl | hc
  ·have:=hf.2.1 (by decide)
   omega
  ·obtain⟨rfl,hh⟩:=hf.2.2 hc
   obtain⟨u,hu⟩:=z.rep.th hh
   obtain⟨y,hy,qy⟩:=z.rep.obj _ u hu hh
   obtain⟨b,hb⟩:=adr hs hy hr
   have:=z.kd u (List.mem_of_getElem? hu)
   exact⟨b,y,hb,by rw[qy.kind];omega⟩
 rcases acj hx with ⟨j,hj,e⟩ | ⟨j,hj,e⟩
 ·rw[e]
  by_cases h4:v.kind=4
  ·exact(set_ref h hj hkx v hv h4 (lead h4)).mono fun e w' ⟨h1,h2⟩=>⟨h1,ai8 hs z.nt hj hkx h2⟩
  ·exact(set_val h hj hkx v hv h4).mono fun e w' ⟨h1,h2⟩=>⟨h1,ai8 hs z.nt hj hkx h2⟩
 ·rw[e]
  by_cases h4:v.kind=4
  ·exact(apz h hj hkx v hv h4 (lead h4) (by omega)).mono fun e w' ⟨h1,h2⟩=>⟨h1,alf hs z.nt hj hkx h2⟩
  ·exact(apy h hj hkx v hv h4).mono fun e w' ⟨h1,h2⟩=>⟨h1,alf hs z.nt hj hkx h2⟩
theorem SetZ.cell {B:Nat} {w w':World} {m:ZM} {P:PHp} {D:DataW Unit} {x:Int} {k:Nat} {u:HV} (h:SetZ B w m P D x k u w') {a:Addr} {v:Value} (hc:w.cell? a=some v) (ho:OutH m a.block):w'.cell? a=some v:=by
 obtain⟨_,_,_,_,_,_,hf,_⟩:=h
 exact(World.cell?_of_block (hf a.block (ze hc) ho)).trans hc
section
variable {B:Nat} {w wc w':World} {zb tb:Nat} {m:ZM} {P:PHp} {D:DataW Unit} {N:ZN} {T:List Th} {wh:List HV} {here known:List Bool}
theorem SetZ.zh (h:Zh B w wc zb m P D N T wh here known) {x:Int} {k:Nat} {u:HV} (q:SetZ B wc m P D x k u w'):∃P' vn',SetAt1 P P' x k u∧NtOk P'∧SameP P P'∧Zh B w w' zb { m with vn:=vn' } P' D N T wh here known:=by
 obtain⟨P',vn',q1,q2,q3,q4,q5,q6,q7,q8,q9,q10⟩:=q
 refine⟨P',vn',q2,q3,q4,q1,?_,h.bl.trans ⟨q8,q9,q10,q7,fun k hk=>q5 k (Nat.lt_of_lt_of_le hk h.hg.hB) (ahz h.zr h.hg hk)⟩⟩
 exact ZQ.heap (vyo':=m.vyo) (vyf':=m.vyf) (voo':=m.voo) (vof':=m.vof) (vn':=vn') (n':=m.n) h.zr (fun k hk=>q5 k (h.zr.lt hk).2 (h.zr.out h.hg hk)) (Or.inl rfl) (Or.inl rfl) q6
theorem Zh.setIs (h:Zh B w wc zb m P D N T wh here known) {i k:Nat} {t:Th} {vi:Value} {g cap:Nat} (ht:T[i]?=some t) (hvi:m.vis[i]?=some vi) (hg:vi=.slice (some ⟨g,0,none⟩) t.is.length cap) (x:Int):Zh B w (wc.setCell ⟨g,k,none⟩ (.int .i64 x)) zb m P D N (adz T i t k x) wh here known:=by
 have hs:(wc.setCell ⟨g,k,none⟩ (.int .i64 x)).heap.size=wc.heap.size:=by simp[World.setCell]
 have hvb:vi.ownBlock=some g:=by rw[hg];rfl
 have hmem:=List.mem_of_getElem? hvi
 have ho:=h.zr.out h.hg (Or.inr (Or.inr (Or.inr (Or.inr (Or.inr (Or.inr ⟨vi,hmem,hvb⟩))))))
 obtain⟨hgB,hgl,gcs,hgc⟩:=h.zr.ofI hmem hvb
 have oth:∀j,j≠g→(wc.setCell ⟨g,k,none⟩ (.int .i64 x)).heap[j]?=wc.heap[j]?:=fun j hj=>zo _ hj
 have tn:∀{j:Nat} {cs:Array Value} {e:TypeId} {fr:Nat×Nat},wc.heap[j]?=some (.cells cs e fr)→e≠3→j≠g:=fun hj hne e=>by
  rw[e,hgc] at hj
  injection hj with hj
  injection hj with _ hj _
  exact hne hj.symm
 have mv:∀{v:Value} {n q:Nat} {xs:List Value} {e:TypeId},wc.ownsRow B e q v n xs→e≠3→(wc.setCell ⟨g,k,none⟩ (.int .i64 x)).ownsRow B e q v n xs:=fun hr hne=>zs hr fun j hj=>by
  obtain⟨_,_,cs,hc⟩:=zp hr j hj
  exact oth j (tn hc hne)
 have z:=h.zr
 refine⟨h.hg.far (fun j _ hn=>oth j fun e=>hn (e ▸ ho)) (by rw[hs];exact Nat.le_refl _),⟨(oth _ (tn z.blk (by decide))).trans z.blk,?_,mv z.wr (by decide),mv z.hr (by decide),mv z.kr (by decide),by rw[adz,List.length_set];exact z.lb,by rw[adz,List.length_set];exact z.lv,fun j u b vj h1 h2 h3=>?_,z.nb,z.ni,z.hk,z.zl,z.bl,z.hl,z.aw,z.ai⟩,h.bl.trans ⟨rfl,rfl,rfl,by rw[hs];exact Nat.le_refl _,fun j hj=>oth j (by omega)⟩⟩
 ·have:=mv z.th (by decide)
  rw[adz,List.length_set]
  exact this
 ·rcases afi h1 with ⟨rfl,rfl,_⟩ | ⟨hne,h1⟩
  ·rw[hvi] at h3
   cases h3
   obtain⟨q1,q2⟩:=z.ob j t b vi ht h2 hvi
   refine⟨(oth b (tn q1 (by decide))).trans q1,?_⟩
   have:=acw q2 hg (i:=k) (.int .i64 x)
   rw[List.length_set,List.map_set]
   exact this
  ·obtain⟨q1,q2⟩:=z.ob j u b vj h1 h2 h3
   exact⟨(oth b (tn q1 (by decide))).trans q1,zs q2 fun q hq=>oth q fun e=>hne (z.ni j i vj vi g h3 hvi (e ▸ hq) hvb)⟩
theorem Zh.set {k:Nat} {s:ZS} {m0:ZM} (h0:ZAt B k w zb m0 s) (hk:k<60) {P':PHp} {i f:Nat} {t:Th} (ht:s.T[i]?=some t) (hi:s.here[i]?=some true) {c:Int} {v:HV} (hf:Fld s.here s.ad c v) (hc:-1≤c∧c≤s.T.length) (q:SetAt1 s.P P' (s.ad i) f v) (hn:NtOk P') (hp:SameP s.P P') (hmn:m.n=m0.n∧m.hp=m0.hp) (h:Zh B w wc zb m P' s.D (aau s.P) (adz s.T i t f c) s.wh s.here s.known):ZNext B (k+1) zb w wc:=by
 have fw:=h0.fw
 refine⟨m,⟨P',s.D,_,_,_,_,_⟩,⟨h.hg,by rw[hp.nums];exact h.zr,h0.zi.set ht hi hf hc q hp.la hn,?_⟩,h.bl,h0.zr.hp0 h.zr hmn.2⟩
 have hmn:=hmn.1
 have f1:=fw.k60
 have f2:=fw.t
 have f3:=fw.c
 have f4:=fw.f
 have f5:=fw.y
 have f6:=fw.o
 have f7:=fw.n
 have f8:=fw.nt
 have f9:=hp.nt
 have f10:(adz s.T i t f c).length=s.T.length:=List.length_set
 exact⟨by omega,Nat.le_trans (Nat.le_of_eq f10) (by omega),by rw[hp.yl,hp.ol];omega,by rw[hp.yf,hp.of'];omega,by rw[hp.fy,hp.yl];omega,by rw[hp.fo,hp.ol];omega,by omega,Nat.le_trans f9 (by omega),by rw[hp.ry,hp.ro];exact fw.rm⟩
theorem ZAt.same {k:Nat} {m0:ZM} {s:ZS} (h0:ZAt B k w zb m0 s) (hk:k<60) (hb:Below w.heap.size w wc):ZNext B (k+1) zb w wc:=by
 have fw:=h0.fw
 have f2:=fw.t
 have f3:=fw.c
 have f4:=fw.f
 have f5:=fw.y
 have f6:=fw.o
 have f7:=fw.n
 have f8:=fw.nt
 exact⟨m0,s,⟨h0.hg.keep hb,h0.zr.keep hb,h0.zi,⟨by omega,by omega,by omega,by omega,by omega,by omega,by omega,by omega,fw.rm⟩⟩,hb.mono h0.hg.hB,h0.zr.hp0 (h0.zr.keep hb) rfl⟩
end
end
end Go.Proofs.YtpnghfghdbijlaaGreatDoor
