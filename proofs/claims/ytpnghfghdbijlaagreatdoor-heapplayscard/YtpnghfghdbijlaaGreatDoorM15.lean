/- A part. -/
import Derived.Test.YtpnghfghdbijlaaGreatDoorM14
open Go.Proofs.Tryz
namespace Go.Proofs.YtpnghfghdbijlaaGreatDoor
open Go.RowKit
set_option linter.unusedVariables false
set_option linter.unusedSimpArgs false
set_option maxRecDepth 100000
set_option maxHeartbeats 40000000
section
open Go.RowKit Go.Maps
def GI (S:Nat×Nat→Prop) (L:List PL):Prop:=∀q,aaf L q≠0→S q
def RI (S:Nat×Nat→Prop) (L:List PL) (v:HV):Prop:=v.kind=4→∀q,aab L 0 v.n=some q→S q
def CI (S:Nat×Nat→Prop) (L:List PL):Prop:=∀q x,aak L q=some x→S q→∀u∈x.fs,RI S L u
theorem RI.later {S:Nat×Nat→Prop} {L L':List PL} {v:HV} (h:RI S L v) (l:Later L L'):RI S L' v:=fun hk q h1=>h hk q (by rw[←l.leads];exact h1)
theorem CI.later {S:Nat×Nat→Prop} {L L':List PL} (h:CI S L) (l:Later L L'):CI S L':=fun q x h1 h2 u hu=>(h q x (by rw[←l.objs];exact h1) h2 u hu).later l
theorem GI.move {S:Nat×Nat→Prop} {M:MS} (hf:Full M.L) (h:GI S M.L) {v:HV} (hv:RI S M.L v):GI S (aaj M v).1.L:=fun q hq=>by
 rcases aj8 hf v hq with a | ⟨a,b⟩
 ·exact h q a
 ·exact hv a q b
theorem GI.field {S:Nat×Nat→Prop} {k0 s:Nat} {M:MS} (hI:MInv k0 s M) (hb:zm M.T k0≤s) (hs:s<(zg M.T).length) (h:GI S M.L) (hc:CI S M.L):GI S (aby M s).L:=by
 obtain⟨v,hv⟩:∃v,(zg M.T)[s]?=some v:=⟨_,List.getElem?_eq_getElem hs⟩
 rw[acm hv]
 refine h.move hI.full ?_
 obtain⟨t,y,k,hy,hk,e⟩:=ait M.T s hs
 have htk:k0≤t:=Nat.le_of_not_lt fun q=>by
  have:=agr M.T hy q
  omega
 obtain⟨q,x,a1,a2,a3⟩:=hI.orig t y htk hy
 unfold hdr at a3
 simp only[Prod.mk.injEq] at a3
 obtain⟨_,_,_,b4,_⟩:=a3
 have hft:=hI.ft
 obtain⟨u,hu⟩:∃u,x.fs[k]?=some u:=⟨_,List.getElem?_eq_getElem (show k<x.fs.length by omega)⟩
 have h2:=(hI.flds t q x k u htk (List.getElem?_eq_some_iff.1 hy).1 a1 a2 hu).2 (by omega)
 rw[e,hv] at h2
 cases h2
 exact hc q x a2 (h q (by omega)) v (List.mem_of_getElem? hu)
theorem ai1 {l l':List HO} {r:List (Int×Int×Int×Nat×Bool)} (h:l'.map hdr=l.map hdr++r) {k:Nat} (hk:k≤l.length):zm l' k=zm l k:=by
 have e:(l'.take l.length).map hdr=l.map hdr:=by rw[List.map_take,h,List.take_left' (by simp)]
 have e2:zm l' k=zm (l'.take l.length) k:=by
  unfold zm
  rw[List.take_take,Nat.min_eq_left hk]
 rw[e2]
 exact ag9 e k
theorem GI.rest {S:Nat×Nat→Prop} {k0:Nat}:∀(f:Nat) {s:Nat} {M:MS},MInv k0 s M→zm M.T k0≤s→GI S M.L→CI S M.L→GI S (aai f M s).L
 | 0,_,_,_,_,h,_=>h
 | f+1,s,M,hI,hb,h,hc=>by
  rw[aai]
  split
  ·rename_i hlt
   obtain⟨h1,l1,_,⟨r,hr⟩,_⟩:=hI.field hlt
   exact GI.rest f h1 (by rw[ai1 hr hI.kle];omega) (h.field hI hb hlt hc) (hc.later l1)
  ·exact h
theorem GI.roots {S:Nat×Nat→Prop} {k0 s:Nat}:∀(l:List HV) {M:MS},MInv k0 s M→GI S M.L→(∀v∈l,RI S M.L v)→GI S (zv M l).L
 | [],_,_,h,_=>h
 | v :: l,M,hI,h,hv=>by
  obtain⟨h1,l1,_⟩:=hI.move v
  exact GI.roots l h1 (h.move hI.full (hv v (List.mem_cons_self ..))) (fun u hu=>(hv u (List.mem_cons_of_mem _ hu)).later l1)
def abv (T:List Th) (fr:List Int) (i:Nat):Bool:=decide ((i:Int)∈abp (T.map Th.is) fr)
theorem Zi.tie {P:PHp} {D:DataW Unit} {T:List Th} {wh:List HV} {here known:List Bool} {ad:Nat→Int} (h:Zi P D T wh here known ad):∀L∈T.map Th.is,∀x∈L,x≤((T.map Th.is).length:Int):=fun L hL x hx=>by
 obtain⟨t,ht,rfl⟩:=List.mem_map.1 hL
 rw[List.length_map]
 exact(h.cs t ht x hx).2
theorem IsTh.ref {here:List Bool} {ad:Nat→Int} {t:Th} {x:HO} (h:IsTh here ad t x) {u:HV} (hu:u∈x.fs) (h4:u.kind=4):∃c∈t.is,0<c∧u=toA (ad (c-1).toNat)∧here[(c-1).toNat]?=some true:=by
 obtain⟨f,hf⟩:=List.getElem?_of_mem hu
 have hfl:=(List.getElem?_eq_some_iff.1 hf).1
 have hcl:f<t.is.length:=by rw[←h.len];exact hfl
 obtain⟨v',hv',q1,q2,q3⟩:=h.fld f _ (List.getElem?_eq_getElem hcl)
 rw[hf] at hv'
 cases hv'
 rcases Int.lt_trichotomy t.is[f] 0 with q | q | q
 ·have:=q2 q
  omega
 ·have:=q1 q
  subst this
  cases h4
 ·exact⟨_,List.getElem_mem hcl,q,q3 q⟩
theorem Zi.leads {P P':PHp} {D:DataW Unit} {T:List Th} {wh:List HV} {here known:List Bool} {ad:Nat→Int} {k0:Nat} {M:MS} (h:Zi P D T wh here known ad) (c:Ck P P' k0 M) {fr:List Int} (hfr:∀x∈fr,1≤x∧here[(x-1).toNat]?=some true∧aa0 M.L (toA (ad (x-1).toNat)))
  (hg:GI (fun q=>∃i:Nat,here[i]?=some true∧aab M.L 0 (ad i)=some q∧abv T fr i=true) M.L) (ho:∀i:Nat,here[i]?=some true→aab M.L 0 (ad i)=none→abv T fr i=true) :
  ∀i:Nat,here[i]?=some true→(abv T fr i=true↔aa0 M.L (toA (ad i))):=fun i hi=>by
 constructor
 ·intro hl
  have hl:(i:Int)∈abp (T.map Th.is) fr:=of_decide_eq_true hl
  have:=lead_in (T:=T.map Th.is) (C:=fun a=>0≤a∧here[a.toNat]?=some true∧aa0 M.L (toA (ad a.toNat))) (fun a ⟨_,h1,h2⟩ h0 L hL x hx hx1=>by
   rw[List.getElem?_map] at hL
   obtain⟨t,ht⟩:=h.rep.th h1
   rw[ht] at hL
   cases hL
   obtain⟨y,hy,w⟩:=h.rep.obj _ t ht h1
   obtain⟨_,_,s⟩:=c.obj hy h2
   obtain⟨k,hk⟩:=List.getElem?_of_mem hx
   obtain⟨v,hv,_,_,f3⟩:=w.fld k x hk
   obtain⟨rfl,g⟩:=f3 (by omega)
   exact⟨by omega,g,s.went _ (List.mem_of_getElem? hv)⟩) (fr:=fr) (fun x hx h1=>by
   obtain⟨a1,a2,a3⟩:=hfr x hx
   exact⟨by omega,a2,a3⟩) i hl
  simpa using this.2.2
 ·intro hw
  cases hq:aab M.L 0 (ad i) with
  | none=>exact ho i hi hq
  | some q =>
   obtain⟨j,hj,h1,h2⟩:=hg q ((ac4 hq).1 hw)
   have:=h.rep.inj i j hi hj (akd hq h1)
   subst this
   exact h2
theorem Zi.led {P:PHp} {D:DataW Unit} {T:List Th} {wh:List HV} {here known:List Bool} {ad:Nat→Int} (h:Zi P D T wh here known ad) {fr:List Int} (hfr:∀x∈fr,x≤(T.length:Int)):(∀i:Nat,(i:Int)+1∈fr→abv T fr i=true)∧∀(i:Nat) (t:Th),abv T fr i=true→T[i]?=some t→∀c∈t.is,0<c→abv T fr (c-1).toNat=true:=by
 obtain⟨_,h2,h3⟩:=aly h.tie (fr:=fr) (fun x hx=>by rw[List.length_map];exact hfr x hx)
 refine⟨fun i hi=>decide_eq_true ?_,fun i t hl ht c hc h0=>decide_eq_true ?_⟩
 ·have:=h2 _ hi (by omega)
  rwa [show (i:Int)+1-1=i by omega] at this
 ·have:=h3 i (of_decide_eq_true hl) t.is (by rw[Int.toNat_natCast,List.getElem?_map,ht];rfl) c hc (by omega)
  rwa [show c-1=(((c-1).toNat:Nat):Int) by omega] at this
theorem Zi.closed {P:PHp} {D:DataW Unit} {T:List Th} {wh:List HV} {here known:List Bool} {ad:Nat→Int} (h:Zi P D T wh here known ad) {fr:List Int} (hfr:∀x∈fr,x≤(T.length:Int)) {L:List PL} {i:Nat} (hi:here[i]?=some true) (hl:abv T fr i=true) {x:HO} (hx:aao P (ad i)=some x) :
  ∀u∈x.fs,RI (fun q=>∃i:Nat,here[i]?=some true∧aab L 0 (ad i)=some q∧abv T fr i=true) L u:=fun u hu h4 q hq=>by
 obtain⟨t,ht⟩:=h.rep.th hi
 obtain⟨y,hy,w⟩:=h.rep.obj i t ht hi
 rw[hx] at hy
 cases hy
 obtain⟨c,hc,h0,rfl,hh⟩:=w.ref hu h4
 exact⟨_,hh,hq,(h.led hfr).2 i t hl ht c hc h0⟩
theorem Zi.ci {P:PHp} {D:DataW Unit} {T:List Th} {wh:List HV} {here known:List Bool} {ad:Nat→Int} (h:Zi P D T wh here known ad) {fr:List Int} (hfr:∀x∈fr,x≤(T.length:Int)) {L:List PL} (cov:Cov P L) :
  CI (fun q=>∃i:Nat,here[i]?=some true∧aab L 0 (ad i)=some q∧abv T fr i=true) L:=fun q x hx ⟨i,hi,h1,h2⟩=>by
 obtain⟨t,ht⟩:=h.rep.th hi
 obtain⟨y,hy,w⟩:=h.rep.obj i t ht hi
 have:=cov.tw _ _ hy q h1
 rw[hx] at this
 cases this
 exact h.closed hfr hi h2 hy
theorem GI.iff {S S':Nat×Nat→Prop} {L:List PL} (h:GI S L) (k:∀q,S q→S' q):GI S' L:=fun q hq=>k q (h q hq)
theorem ap6 {P:PHp} (hs:Small P) {M:MS} (hI:MInv 0 (zg M.T).length M) (hL:Later (zw P).L M.L) (hft:M.ft=P.fo+2*P.O.length) (mj:Int):Ck P (abd P M.T mj) 0 M:=by
 have cov:Cover P M.L:=(aj4 P).later hL
 have h1:=hs.yo
 have h2:=hs.oe
 refine⟨hI,⟨fun a x hx q hq=>?_,fun q x hx=>?_⟩,fun a x hx hn=>?_,fun t ht=>absurd ht (Nat.not_lt_zero _),rfl,rfl,hft.symm⟩
 ·obtain⟨q',h1,h2⟩:=(cov a x).1 hx
  rw[hq] at h1
  cases h1
  exact h2
 ·rw[hL.objs] at hx
  have:∃a,aab (zw P).L 0 a=some q:=by
   obtain⟨i,k⟩:=q
   match i with
   | 0 =>
    have hk:P.Y[k]?=some x:=by simpa [aak,zw] using hx
    exact⟨P.fy+2*k,by simp[zw,aab,aa3.2 ⟨(List.getElem?_eq_some_iff.1 hk).1,rfl⟩]⟩
   | 1 =>
    have hk:P.O[k]?=some x:=by simpa [aak,zw] using hx
    have hkl:=(List.getElem?_eq_some_iff.1 hk).1
    refine⟨P.fo+2*k,?_⟩
    simp only[zw,aab]
    rw[ab6 (fun i hi=>by omega)]
    simp only
    rw[aa3.2 ⟨hkl,rfl⟩]
   | i+2=>simp[aak,zw] at hx
  obtain⟨a,ha⟩:=this
  exact⟨a,by rw[hL.leads];exact ha,(cov a x).2 ⟨q,by rw[hL.leads];exact ha,by rw[hL.objs];exact hx⟩⟩
 ·obtain⟨q,h1,_⟩:=(cov a x).1 hx
  rw[hn] at h1
  cases h1
theorem ami {P:PHp} (h2:2≤P.fo) (rs:List HV) {M:MS} (he:M=aai (Go.Proofs.YtpnghfghdbijlaaGreatDoor.pot (zv (zw P) rs)) (zv (zw P) rs) 0):MInv 0 (zg M.T).length M∧Later (zw P).L M.L∧M.ft=P.fo+2*P.O.length∧∀v∈rs,aa0 M.L v:=by
 have s0:MInv 0 0 (zw P):=MInv.start (M:=zw P) (abz P) (by simp only[zw];omega)
 obtain⟨r1,r2,r3,_,_,r6⟩:=s0.roots rs
 obtain⟨q1,q2,q3,_⟩:=MInv.rest _ r1 (Nat.le_of_eq (Nat.zero_add _).symm)
 rw[←he] at q1 q2 q3
 exact⟨q1,r2.trans q2,q3.trans r3,fun v hv=>q2.went (r6 v hv)⟩
theorem ai2 {k0 s:Nat} {M:MS} (hI:MInv k0 s M) {t:Nat} {y:HO} (ht:k0≤t) (hy:M.T[t]?=some y):y.noted=false:=by
 obtain⟨q,x,_,_,a3⟩:=hI.orig t y ht hy
 unfold hdr at a3
 simp only[Prod.mk.injEq] at a3
 exact a3.2.2.2.2
theorem Zi.major {P:PHp} {D:DataW Unit} {T:List Th} {wh:List HV} {here known:List Bool} {ad:Nat→Int} (h:Zi P D T wh here known ad) (hs:Small P) (h2:2≤P.fo) {rs:List HV} {fr:List Int} (hr:∀v∈rs,∃i:Nat,here[i]?=some true∧v=toA (ad i)∧(i:Int)+1∈fr) (hf:∀x∈fr,∃i:Nat,x=(i:Int)+1∧here[i]?=some true∧toA (ad i)∈rs)
  {M:MS} (he:M=aai (Go.Proofs.YtpnghfghdbijlaaGreatDoor.pot (zv (zw P) rs)) (zv (zw P) rs) 0) (mj:Int) :
  Ck P (abd P M.T mj) 0 M∧(∀i:Nat,here[i]?=some true→(abv T fr i=true↔aa0 M.L (toA (ad i))))∧(M.L.map PL.objs).flatten=P.Y++P.O∧∀y∈M.T,y.noted=false:=by
 obtain⟨hI,hL,hft,hw⟩:=ami h2 rs he
 have c:=ap6 hs hI hL hft mj
 have hle:∀x∈fr,x≤(T.length:Int):=fun x hx=>by
  obtain⟨i,rfl,hi,_⟩:=hf x hx
  have:=(List.getElem?_eq_some_iff.1 hi).1
  have:=h.rep.len
  omega
 have hobj:(M.L.map PL.objs).flatten=P.Y++P.O:=by
  rw[he,afx,afc]
  simp[zw]
 refine⟨c,?_,hobj,fun y hy=>?_⟩
 ·refine h.leads c (fun x hx=>?_) ?_ (fun i hi hn=>?_)
  ·obtain⟨i,rfl,hi,hm⟩:=hf x hx
   rw[show (i:Int)+1-1=i by omega,Int.toNat_natCast]
   exact⟨by omega,hi,hw _ hm⟩
  ·have cov0:Cov P (zw P).L:=⟨fun a x hx q hq=>by rw[←hL.objs];exact c.cov.tw a x hx q (by rw[hL.leads];exact hq),fun q x hx=>by
    obtain⟨a,a1,a2⟩:=c.cov.fr q x (by rw[hL.objs];exact hx)
    exact⟨a,by rw[←hL.leads];exact a1,a2⟩⟩
   have ci:=h.ci hle cov0
   have g0:GI (fun q=>∃i:Nat,here[i]?=some true∧aab (zw P).L 0 (ad i)=some q∧abv T fr i=true) (zw P).L:=fun q hq=>absurd ((abz P).gone q) hq
   have s0:MInv 0 0 (zw P):=MInv.start (M:=zw P) (abz P) (by simp only[zw];omega)
   obtain⟨r1,r2,_⟩:=s0.roots rs
   have g1:=g0.roots rs s0 (fun v hv h4 q hq=>by
    obtain⟨i,hi,rfl,hfi⟩:=hr v hv
    exact⟨i,hi,hq,(h.led hle).1 i hfi⟩)
   have g2:=GI.rest (Go.Proofs.YtpnghfghdbijlaaGreatDoor.pot (zv (zw P) rs)) r1 (by simp[zm,zg]) g1 (ci.later r2)
   rw[←he] at g2
   exact g2.iff fun q ⟨i,a1,a2,a3⟩=>⟨i,a1,by rw[hL.leads];exact a2,a3⟩
  ·obtain⟨t,ht⟩:=h.rep.th hi
   obtain⟨x,hx,_⟩:=h.rep.obj i t ht hi
   obtain⟨t,_,hlt,_⟩:=c.st _ _ hx hn
   exact absurd hlt (Nat.not_lt_zero _)
 ·obtain⟨t,ht⟩:=List.getElem?_of_mem hy
  exact ai2 hI (Nat.zero_le _) ht
theorem amj {P:PHp}:Cov P (aae P).L:=by
 refine⟨fun a x hx q hq=>?_,fun q x hx=>?_⟩
 ·simp only[aae,aab] at hq
  unfold aao at hx
  cases h1:acf P.fy P.Y.length a with
  | none=>rw[h1] at hq;cases hq
  | some i =>
   rw[h1] at hq hx
   cases hq
   simpa [aak,aae] using hx
 ·obtain⟨i,k⟩:=q
  match i with
  | 0 =>
   have hk:P.Y[k]?=some x:=by simpa [aak,aae] using hx
   exact⟨P.fy+2*k,by simp[aae,aab,aa3.2 ⟨(List.getElem?_eq_some_iff.1 hk).1,rfl⟩],abx hk⟩
  | i+1=>simp[aak,aae] at hx
theorem ag1 {P:PHp} {a:Int}:aab (aae P).L 0 a=none↔∀i:Nat,i<P.Y.length→a≠P.fy+2*i:=by
 simp only[aae,aab]
 constructor
 ·intro h
  cases h1:acf P.fy P.Y.length a with
  | none=>exact amn h1
  | some i=>rw[h1] at h;cases h
 ·intro h
  rw[ab6 h]
structure MinEnd (P:PHp) (rs:List HV) (Mk M:MS):Prop where
 ni:NI P.O (aae P).L P.fo (aea P P.noted.length) (aeb P P.noted.length) Mk
 inv:MInv P.O.length (zg M.T).length M
 lat:Later (aae P).L M.L
 ft:M.ft=P.fo
 eq:aai (Go.Proofs.YtpnghfghdbijlaaGreatDoor.pot (zv Mk rs)-(zg P.O).length) (zv Mk rs) (zg P.O).length=M
 hd:∃r,M.T.map hdr=Mk.T.map hdr++r
 fl:∀i:Nat,i<(zg P.O).length→(zg M.T)[i]?=(zg Mk.T)[i]?
 l2:Later Mk.L M.L
theorem MinEnd.ck {P:PHp} (hs:Small P) (nt:NtOk P) {rs:List HV} {Mk M:MS} (h:MinEnd P rs Mk M) (mn:Int):Ck P (aba P M.T mn) P.O.length M∧∀y∈M.T,y.noted=false:=by
 have h1:=hs.yo
 have h2:=hs.oe
 obtain⟨r,hr⟩:=h.hd
 obtain⟨r0,hr0⟩:=h.ni.hd
 have hkl:=h.ni.inv.kle
 have hMl:Mk.T.length≤M.T.length:=by
  have:=congrArg List.length hr
  simp at this
  omega
 have hnone:∀t:Nat,aab M.L 0 (P.fo+2*(t:Int))=none:=fun t=>by
  rw[h.lat.leads,ag1]
  intro i hi
  omega
 -- an old object
 have old:∀(t:Nat) (x:HO),P.O[t]?=some x→∃y,M.T[t]?=some y∧Same M.L x y∧y.noted=false:=fun t x hx=>by
  have ht:=(List.getElem?_eq_some_iff.1 hx).1
  obtain⟨y,hy⟩:∃y,M.T[t]?=some y:=⟨_,List.getElem?_eq_getElem (by omega)⟩
  obtain⟨z,hz⟩:∃z,Mk.T[t]?=some z:=⟨_,List.getElem?_eq_getElem (by omega)⟩
  have e1:hdr y=hdr z:=by
   have e:=congrArg (·[t]?) hr
   simp only[List.getElem?_map,hy] at e
   rw[List.getElem?_append_left (by rw[List.length_map];omega),List.getElem?_map,hz] at e
   simpa using e
  have e2:acy z=acy x:=by
   have e:=congrArg (·[t]?) hr0
   simp only[List.getElem?_map,hz] at e
   rw[List.getElem?_append_left (by rw[List.length_map];omega),List.getElem?_map,hx] at e
   simpa using e
  unfold hdr at e1
  unfold acy at e2
  simp only[Prod.mk.injEq] at e1 e2
  obtain⟨a1,a2,a3,a4,a5⟩:=e1
  obtain⟨b1,b2,b3,b4⟩:=e2
  have hbM:zm M.T t=zm P.O t:=by rw[ai1 hr (by omega),h.ni.beg (by omega)]
  have key:∀(k:Nat) u,x.fs[k]?=some u→y.fs[k]?=some (phi M.L u)∧aa0 M.L u:=fun k u hu=>by
   have hk:=(List.getElem?_eq_some_iff.1 hu).1
   have hlt:zm P.O t+k<(zg P.O).length:=by have:=ach hx;omega
   have hv:(zg P.O)[zm P.O t+k]?=some u:=by rw[aef hx hk];exact hu
   obtain⟨f1,f2⟩:=h.ni.fl _ _ hv
   have hyk:y.fs[k]?=(zg Mk.T)[zm P.O t+k]?:=by
    rw[←h.fl _ hlt,←hbM,aef hy (by omega)]
   by_cases hz:aea P P.noted.length (zm P.O t+k)
   ·obtain⟨g1,g2⟩:=f1 hz
    exact⟨by rw[hyk,g1,h.l2.phi g2],h.l2.went g2⟩
   ·have hnn:(t:Int) ∉ P.noted:=fun q=>hz ⟨t,x,by rw[List.take_length];exact q,hx,by omega,by omega⟩
    have hxn:x.noted=false:=by
     cases e:x.noted with
     | false=>rfl
     | true=>exact absurd ((nt.mj t x hx).1 e) hnn
    have hout:u.kind=4→aab M.L 0 u.n=none:=fun h4=>by
     rw[h.lat.leads,ag1]
     intro i hi e
     have:=nt.yo t x hx u (List.mem_of_getElem? hu) h4 ⟨i,hi,e⟩
     rw[hxn] at this
     cases this
    refine⟨?_,fun h4 q hq=>by rw[hout h4] at hq;cases hq⟩
    rw[hyk,f2 hz]
    unfold phi
    by_cases h4:u.kind=4
    ·rw[if_neg (by simpa using h4)]
     simp only[hout h4]
    ·rw[if_pos h4]
  refine⟨y,hy,⟨by omega,by omega,by omega,?_,fun u hu=>?_⟩,?_⟩
  ·apply List.ext_getElem?
   intro k
   rw[List.getElem?_map]
   cases hu:x.fs[k]? with
   | none =>
    have:=List.getElem?_eq_none_iff.1 hu
    rw[List.getElem?_eq_none (by omega)]
    rfl
   | some u=>exact(key k u hu).1
  ·obtain⟨k,hk⟩:=List.getElem?_of_mem hu
   exact(key k u hk).2
  ·rw[a5]
   obtain⟨n1,n2⟩:=h.ni.nt t x z hx hz
   by_cases hu:aeb P P.noted.length t
   ·exact n1 hu
   ·rw[n2 hu]
    cases e:x.noted with
    | false=>rfl
    | true=>exact absurd (show aeb P P.noted.length t by unfold aeb;rw[List.take_length];exact(nt.mj t x hx).1 e) hu
 refine⟨⟨h.inv,amj.later h.lat,fun a x hx hn=>?_,fun t ht=>?_,rfl,rfl,h.ft.symm⟩,fun y hy=>?_⟩
 ·rcases acj hx with ⟨j,hj,rfl⟩ | ⟨j,hj,rfl⟩
  ·rw[h.lat.leads,ag1] at hn
   exact absurd rfl (hn j (List.getElem?_eq_some_iff.1 hj).1)
  ·obtain⟨y,hy,s,_⟩:=old j x hj
   exact⟨j,y,(List.getElem?_eq_some_iff.1 hj).1,by rw[h.ft],hy,s⟩
 ·rw[h.ft]
  exact⟨_,abm hs (List.getElem?_eq_getElem ht),hnone t⟩
 ·obtain⟨t,ht⟩:=List.getElem?_of_mem hy
  by_cases hk:t<P.O.length
  ·obtain⟨z,hz,_,hn⟩:=old t _ (List.getElem?_eq_getElem hk)
   rw[ht] at hz
   cases hz
   exact hn
  ·exact ai2 h.inv (by omega) ht
theorem Zi.minor {P:PHp} {D:DataW Unit} {T:List Th} {wh:List HV} {here known:List Bool} {ad:Nat→Int} (h:Zi P D T wh here known ad) (hs:Small P) {rs:List HV} {fr:List Int} (hr:∀v∈rs,∃i:Nat,here[i]?=some true∧v=toA (ad i)∧(i:Int)+1∈fr) (hf:∀x∈fr,∃(i:Nat) (t:Th),T[i]?=some t∧x=(i:Int)+1∧here[i]?=some true∧(toA (ad i)∈rs∨t.old=true))
  (hold:∀(i:Nat) (t:Th),T[i]?=some t→here[i]?=some true→t.old=true→(i:Int)+1∈fr) {Mk M:MS} (e:MinEnd P rs Mk M) (hw:∀v∈rs,aa0 M.L v) (mn:Int) :
  Ck P (aba P M.T mn) P.O.length M∧(∀i:Nat,here[i]?=some true→(abv T fr i=true↔aa0 M.L (toA (ad i))))∧∀y∈M.T,y.noted=false:=by
 obtain⟨c,hn⟩:=e.ck hs h.nt mn
 have h1:=hs.yo
 have h2:=hs.oe
 have hle:∀x∈fr,x≤(T.length:Int):=fun x hx=>by
  obtain⟨i,t,ht,rfl,hi,_⟩:=hf x hx
  have:=(List.getElem?_eq_some_iff.1 ht).1
  omega
 have hout:∀j:Nat,aab M.L 0 (P.fo+2*(j:Int))=none:=fun j=>by
  rw[e.lat.leads,ag1]
  intro i hi
  omega
 refine⟨c,?_,hn⟩
 refine h.leads c (fun x hx=>?_) ?_ (fun i hi hn=>?_)
 ·obtain⟨i,t,ht,rfl,hi,hm⟩:=hf x hx
  rw[show (i:Int)+1-1=i by omega,Int.toNat_natCast]
  refine⟨by omega,hi,?_⟩
  rcases hm with hm | hm
  ·exact hw _ hm
  ·obtain⟨j,_,ej⟩:=(h.rep.old i t ht hi).1 hm
   rw[ej]
   exact ahn (hout j)
 ·have ci:=h.ci hle (amj (P:=P))
  -- what old objects lead to
  have g0:GI (fun q=>∃i:Nat,here[i]?=some true∧aab (aae P).L 0 (ad i)=some q∧abv T fr i=true) Mk.L:=fun q hq=>by
   obtain⟨f,v,_,hv,h4,hlq⟩:=e.ni.on q hq
   obtain⟨t,y,k,hy,hk,ek⟩:=ait P.O f (List.getElem?_eq_some_iff.1 hv).1
   rw[←ek,aef hy hk] at hv
   obtain⟨i,hi,ei⟩:=h.rep.sur _ _ (abm hs hy)
   obtain⟨u,hu⟩:=h.rep.th hi
   have ho:u.old=true:=(h.rep.old i u hu hi).2 ⟨t,(List.getElem?_eq_some_iff.1 hy).1,ei⟩
   exact h.closed hle hi ((h.led hle).1 i (hold i u hu hi ho)) (by rw[ei];exact abm hs hy) v (List.mem_of_getElem? hv) h4 q hlq
  have s0:=e.ni.inv
  obtain⟨r1,r2,_,⟨rr,hrr⟩,_⟩:=s0.roots rs
  have g1:=g0.roots rs s0 (fun v hv h4 q hq=>by
   obtain⟨i,hi,rfl,hfi⟩:=hr v hv
   rw[e.ni.lat.leads] at hq
   exact⟨i,hi,hq,(h.led hle).1 i hfi⟩)
  have ci2:CI (fun q=>∃i:Nat,here[i]?=some true∧aab (aae P).L 0 (ad i)=some q∧abv T fr i=true) (zv Mk rs).L:=ci.later (e.ni.lat.trans r2)
  have hb:zm (zv Mk rs).T P.O.length≤(zg P.O).length:=by
   rw[hrr,aha _ _ s0.kle,e.ni.beg (Nat.le_refl _)]
   unfold zm
   rw[List.take_length]
   exact Nat.le_refl _
  have g2:=GI.rest (Go.Proofs.YtpnghfghdbijlaaGreatDoor.pot (zv Mk rs)-(zg P.O).length) r1 hb g1 ci2
  rw[e.eq] at g2
  exact g2.iff fun q ⟨i,a1,a2,a3⟩=>⟨i,a1,by rw[e.lat.leads];exact a2,a3⟩
 ·obtain⟨t,ht⟩:=h.rep.th hi
  obtain⟨x,hx,_⟩:=h.rep.obj i t ht hi
  obtain⟨j,y,hlt,ea,_⟩:=c.st _ _ hx hn
  refine(h.led hle).1 i (hold i t ht hi ((h.rep.old i t ht hi).2 ⟨j,hlt,?_⟩))
  rw[ea,e.ft]
theorem af2:∀(L L':List PL),(∀q,aak L' q=aak L q)→(L'.map PL.objs).flatten=(L.map PL.objs).flatten
 | [],[],_=>rfl
 | p :: L,[],h=>by
  have h0:p.objs=[]:=by
   cases e:p.objs with
   | nil=>rfl
   | cons x r =>
    have:=h (0,0)
    simp[aak,e] at this
  have:=af2 L [] (fun q=>by
   have:=h (q.1+1,q.2)
   simp[aak] at this ⊢
   exact this)
  simp[h0] at this ⊢
  exact this
 | [],p :: L',h=>by
  have h0:p.objs=[]:=by
   cases e:p.objs with
   | nil=>rfl
   | cons x r =>
    have:=h (0,0)
    simp[aak,e] at this
  have:=af2 [] L' (fun q=>by
   have:=h (q.1+1,q.2)
   simp[aak] at this ⊢
   exact this)
  simp[h0] at this ⊢
  exact this
 | p :: L,p' :: L',h=>by
  have h0:p'.objs=p.objs:=List.ext_getElem? fun i=>by
   have:=h (0,i)
   simpa [aak] using this
  have:=af2 L L' (fun q=>by
   have:=h (q.1+1,q.2)
   simpa [aak] using this)
  rw[List.map_cons,List.map_cons,List.flatten_cons,List.flatten_cons,h0,this]
end
section
open Go.RowKit Go.Maps
theorem ajo (n:Int) (w:World):(binOp BinOp.neq 25 (.iface 29 (.int .i64 n)) .nilIface).run prog w=.ok (.bool true) w:=by kernel_rfl
theorem set_err {B:Nat} {w:World} {hp mb:Nat} {P:PHp} {D:DataW Unit} {n:Nat} {vyo vyf voo vof vn:Value} (h:HpG B w hp mb P D n vyo vyf voo vof vn) {a i:Int} (ha:I64 a) (v:HV) {er:Int} (hg:∀r,Found P a r→acx (aa5 P r) i=.tuple #[adu,ac8 er]) :
  Calls prog 35 #[.pointer (some ⟨hp,0,none⟩),.int .i64 a,.int .i64 i,.agg #[.int .i64 v.kind,.int .i64 v.n,.string v.s]] w fun e w'=>e=.returned (ac8 er)∧Below w.heap.size w w':=by
 have H:=zc h
 have HBA:=zc (fun o=>(Below.refl w.heap.size w).alloc (Nat.le_refl _) o)
 have q0:=ajo
 have HA:=zc ha
 have HG:=zc hg
 clear h ha hg
 go_enter func35,ntmps35
 go_wp2_with fail
 refine(aeh ((za H).keep (za HBA _)).at' (za H).small (za H).few (za HA)).mono ?_
 rintro e w1 ⟨r,hr1,rfl,hb1⟩
 rw[za HG r hr1]
 have HB1:=zc ((za HBA _).trans (hb1.mono (by simp)))
 have HB2:Hid (∀o,Below w.heap.size w (w1.alloc o)):=fun o=>(za HB1).alloc (za HB1).size o
 clear hb1 hr1
 unfold adu ac8
 go_wp2_with fail
 go_ret
 exact⟨rfl,za HB2 _⟩
theorem ai3 {b:Nat} {x:HO} {i:Int} (h:i<0∨(x.fs.length:Int)≤i):acx (some (b,x)) i=.tuple #[adu,ac8 2]:=by
 unfold acx
 dsimp only
 by_cases h0:0≤i
 ·rw[if_pos h0]
  have:x.fs[i.toNat]?=none:=List.getElem?_eq_none_iff.2 (by omega)
  rw[this]
 ·rw[if_neg h0]
end
section
open Go.RowKit Go.Maps
structure ZM where
 hp:Nat
 mb:Nat
 n:Nat
 vyo:Value
 vyf:Value
 voo:Value
 vof:Value
 vn:Value
 vt:Value
 vw:Value
 vh:Value
 vk:Value
 bs:List Nat
 vis:List Value
structure ZN where
 most:Int
 room:Int
 top:Int
 old:Int
 mn:Int
 mj:Int
def adc (m:ZM) (N:ZN):Array Value:=#[.pointer (some ⟨m.hp,0,none⟩),m.vt,m.vw,m.vh,m.vk,.int .i64 N.most,.int .i64 N.room,.int .i64 N.top,.int .i64 N.old,.int .i64 N.mn,.int .i64 N.mj]
def agk (t:Th) (vi:Value):Array Value:=#[.int .i64 t.kind,.int .i64 t.tag,.int .i64 t.id,.bool t.old,vi]
def pv (b:Nat):Value:=.pointer (some ⟨b,0,none⟩)
structure ZQ (B:Nat) (w:World) (zb:Nat) (m:ZM) (N:ZN) (T:List Th) (nw:Nat) (xw:List Value) (here known:List Bool):Prop where
 blk:w.heap[zb]?=some (.cells (adc m N) 35 (0,0))
 th:w.ownsRow B 63 1 m.vt T.length (m.bs.map pv)
 wr:w.ownsRow B 69 3 m.vw nw xw
 hr:w.ownsRow B 4 1 m.vh here.length (here.map Value.bool)
 kr:w.ownsRow B 4 1 m.vk known.length (known.map Value.bool)
 lb:m.bs.length=T.length
 lv:m.vis.length=T.length
 ob:∀(i:Nat) (t:Th) (b:Nat) (vi:Value),T[i]?=some t→m.bs[i]?=some b→m.vis[i]?=some vi→w.heap[b]?=some (.cells (agk t vi) 65 (0,0))∧w.ownsRow B 3 1 vi t.is.length (t.is.map iv)
 nb:∀(i j:Nat) (b:Nat),m.bs[i]?=some b→m.bs[j]?=some b→i=j
 ni:∀(i j:Nat) (vi vj:Value) (g:Nat),m.vis[i]?=some vi→m.vis[j]?=some vj→vi.ownBlock=some g→vj.ownBlock=some g→i=j
 hk:∀g,m.vh.ownBlock=some g→m.vk.ownBlock≠some g
 zl:B≤zb
 bl:∀b∈m.bs,B≤b
 hl:B≤m.hp∧B≤m.mb
 aw:∀g,m.vw.ownBlock=some g→m.vyf.ownBlock≠some g∧m.vof.ownBlock≠some g
 ai:∀vi∈m.vis,∀g,vi.ownBlock=some g→m.vn.ownBlock≠some g
def ae6 (zb:Nat) (m:ZM) (k:Nat):Prop:=k=zb∨m.vt.ownBlock=some k∨m.vw.ownBlock=some k∨m.vh.ownBlock=some k∨m.vk.ownBlock=some k∨k∈m.bs∨∃vi∈m.vis,vi.ownBlock=some k
section
variable {B:Nat} {w w':World} {zb:Nat} {m:ZM} {N:ZN} {T:List Th} {nw:Nat} {xw:List Value} {here known:List Bool}
theorem ZQ.thing (h:ZQ B w zb m N T nw xw here known) {i:Nat} {t:Th} (ht:T[i]?=some t):∃b vi,m.bs[i]?=some b∧m.vis[i]?=some vi∧w.heap[b]?=some (.cells (agk t vi) 65 (0,0))∧w.ownsRow B 3 1 vi t.is.length (t.is.map iv):=by
 have hi:=(List.getElem?_eq_some_iff.1 ht).1
 have h1:m.bs[i]?=some (m.bs[i]'(by rw[h.lb];exact hi)):=List.getElem?_eq_getElem _
 have h2:m.vis[i]?=some (m.vis[i]'(by rw[h.lv];exact hi)):=List.getElem?_eq_getElem _
 exact⟨_,_,h1,h2,h.ob i t _ _ ht h1 h2⟩
theorem ZQ.ofB (h:ZQ B w zb m N T nw xw here known) {b:Nat} (hb:b∈m.bs):∃cs,w.heap[b]?=some (.cells cs 65 (0,0)):=by
 obtain⟨i,hi⟩:=List.getElem?_of_mem hb
 have hl:=(List.getElem?_eq_some_iff.1 hi).1
 obtain⟨b',vi,h1,_,h2,_⟩:=h.thing (List.getElem?_eq_getElem (by rw[←h.lb];exact hl))
 rw[hi] at h1
 cases h1
 exact⟨_,h2⟩
theorem ZQ.ofI (h:ZQ B w zb m N T nw xw here known) {vi:Value} (hv:vi∈m.vis) {g:Nat} (hg:vi.ownBlock=some g):B≤g∧g<w.heap.size∧∃cs,w.heap[g]?=some (.cells cs 3 (0,0)):=by
 obtain⟨i,hi⟩:=List.getElem?_of_mem hv
 have hl:=(List.getElem?_eq_some_iff.1 hi).1
 obtain⟨b',vi',_,h1,_,h2⟩:=h.thing (List.getElem?_eq_getElem (by rw[←h.lv];exact hl))
 rw[hi] at h1
 cases h1
 exact zp h2 g hg
theorem ZQ.lt (h:ZQ B w zb m N T nw xw here known) {k:Nat} (hk:ae6 zb m k):B≤k∧k<w.heap.size:=by
 rcases hk with rfl | q | q | q | q | q | ⟨vi,q1,q2⟩
 ·exact⟨h.zl,hlt h.blk⟩
 ·have:=zp h.th k q;exact⟨this.1,this.2.1⟩
 ·have:=zp h.wr k q;exact⟨this.1,this.2.1⟩
 ·have:=zp h.hr k q;exact⟨this.1,this.2.1⟩
 ·have:=zp h.kr k q;exact⟨this.1,this.2.1⟩
 ·obtain⟨cs,hc⟩:=h.ofB q
  exact⟨h.bl k q,hlt hc⟩
 ·have:=h.ofI q1 q2
  exact⟨this.1,this.2.1⟩
theorem ZQ.move (h:ZQ B w zb m N T nw xw here known) (hb:∀k,ae6 zb m k→w'.heap[k]?=w.heap[k]?):ZQ B w' zb m N T nw xw here known :=
 ⟨(hb _ (Or.inl rfl)).trans h.blk,zs h.th fun j hj=>hb j (Or.inr (Or.inl hj)),zs h.wr fun j hj=>hb j (Or.inr (Or.inr (Or.inl hj))),zs h.hr fun j hj=>hb j (Or.inr (Or.inr (Or.inr (Or.inl hj)))),zs h.kr fun j hj=>hb j (Or.inr (Or.inr (Or.inr (Or.inr (Or.inl hj))))),h.lb,h.lv,fun i t b vi h1 h2 h3=>by
  obtain⟨q1,q2⟩:=h.ob i t b vi h1 h2 h3
  exact⟨(hb b (Or.inr (Or.inr (Or.inr (Or.inr (Or.inr (Or.inl (List.mem_of_getElem? h2)))))))).trans q1,zs q2 fun j hj=>hb j (Or.inr (Or.inr (Or.inr (Or.inr (Or.inr (Or.inr ⟨vi,List.mem_of_getElem? h3,hj⟩))))))⟩,h.nb,h.ni,h.hk,h.zl,h.bl,h.hl,h.aw,h.ai⟩
theorem ZQ.keep (h:ZQ B w zb m N T nw xw here known) (hb:Below w.heap.size w w'):ZQ B w' zb m N T nw xw here known:=h.move fun k hk=>hb.block k (h.lt hk).2
def OwnNew (w:World) (v v':Value):Prop:=v'.ownBlock=v.ownBlock∨∀j,v'.ownBlock=some j→w.heap.size≤j
theorem OwnNew.ne {v v':Value} (h:OwnNew w v v') {g:Nat} (hg:g<w.heap.size) (hv:v.ownBlock≠some g):v'.ownBlock≠some g:=fun e=>by
 rcases h with q | q
 ·exact hv (q ▸ e)
 ·have:=q g e
  omega
theorem ZQ.heap (h:ZQ B w zb m N T nw xw here known) (hb:∀k,ae6 zb m k→w'.heap[k]?=w.heap[k]?) {vyo' vyf' voo' vof' vn':Value} {n':Nat} (h1:OwnNew w m.vyf vyf') (h2:OwnNew w m.vof vof') (h3:OwnNew w m.vn vn') :
  ZQ B w' zb { m with n:=n',vyo:=vyo',vyf:=vyf',voo:=voo',vof:=vof',vn:=vn' } N T nw xw here known:=by
 have k:=h.move hb
 exact⟨k.blk,k.th,k.wr,k.hr,k.kr,k.lb,k.lv,k.ob,k.nb,k.ni,k.hk,k.zl,k.bl,k.hl,fun g hg=>⟨h1.ne (h.lt (Or.inr (Or.inr (Or.inl hg)))).2 (k.aw g hg).1,h2.ne (h.lt (Or.inr (Or.inr (Or.inl hg)))).2 (k.aw g hg).2⟩,fun vi hv g hg=>h3.ne (h.lt (Or.inr (Or.inr (Or.inr (Or.inr (Or.inr (Or.inr ⟨vi,hv,hg⟩))))))).2 (k.ai vi hv g hg)⟩
structure OutH (m:ZM) (k:Nat):Prop where
 hp:k≠m.hp
 mb:k≠m.mb
 yo:m.vyo.ownBlock≠some k
 yf:m.vyf.ownBlock≠some k
 oo:m.voo.ownBlock≠some k
 of':m.vof.ownBlock≠some k
 nt:m.vn.ownBlock≠some k
theorem acq {P:PHp} {D:DataW Unit} (g:HpG B w m.hp m.mb P D m.n m.vyo m.vyf m.voo m.vof m.vn) {k:Nat} {t:TypeId} {cs:Array Value} {fr:Nat×Nat} (hk:w.heap[k]?=some (.cells cs t fr)) (h1:t≠51) (h2:t≠61) (hyf:t=69→m.vyf.ownBlock≠some k) (hof:t=69→m.vof.ownBlock≠some k) (hn:t=3→m.vn.ownBlock≠some k):OutH m k:=by
 have ty:∀{e:TypeId} {v:Value} {n q:Nat} {xs:List Value},w.ownsRow B e q v n xs→t≠e→v.ownBlock≠some k:=fun ho hne e=>by
  obtain⟨_,_,cs',hc⟩:=zp ho k e
  rw[hk] at hc
  injection hc with hc
  injection hc with _ hc _
  exact hne hc
 refine⟨fun e=>?_,fun e=>?_,ty g.at'.yo h2,?_,ty g.at'.oo h2,?_,?_⟩
 ·have:=g.at'.blk
  rw[←e,hk] at this
  injection this with this
  injection this with _ this _
  exact h1 this
 ·obtain⟨es,cl,hm,_⟩:=g.own
  rw[←e,hk] at hm
  cases hm
 ·by_cases e:t=69
  ·exact hyf e
  ·exact ty g.at'.yf e
 ·by_cases e:t=69
  ·exact hof e
  ·exact ty g.at'.of' e
 ·by_cases e:t=3
  ·exact hn e
  ·exact ty g.at'.nt e
theorem ZQ.out (h:ZQ B w zb m N T nw xw here known) {P:PHp} {D:DataW Unit} (g:HpG B w m.hp m.mb P D m.n m.vyo m.vyf m.voo m.vof m.vn) {k:Nat} (hk:ae6 zb m k):OutH m k:=by
 rcases hk with rfl | q | q | q | q | q | ⟨vi,q1,q2⟩
 ·exact acq g h.blk (by decide) (by decide) (fun e=>absurd e (by decide)) (fun e=>absurd e (by decide)) (fun e=>absurd e (by decide))
 ·obtain⟨_,_,cs,hc⟩:=zp h.th k q
  exact acq g hc (by decide) (by decide) (fun e=>absurd e (by decide)) (fun e=>absurd e (by decide)) (fun e=>absurd e (by decide))
 ·obtain⟨_,_,cs,hc⟩:=zp h.wr k q
  exact acq g hc (by decide) (by decide) (fun _=>(h.aw k q).1) (fun _=>(h.aw k q).2) (fun e=>absurd e (by decide))
 ·obtain⟨_,_,cs,hc⟩:=zp h.hr k q
  exact acq g hc (by decide) (by decide) (fun e=>absurd e (by decide)) (fun e=>absurd e (by decide)) (fun e=>absurd e (by decide))
 ·obtain⟨_,_,cs,hc⟩:=zp h.kr k q
  exact acq g hc (by decide) (by decide) (fun e=>absurd e (by decide)) (fun e=>absurd e (by decide)) (fun e=>absurd e (by decide))
 ·obtain⟨cs,hc⟩:=h.ofB q
  exact acq g hc (by decide) (by decide) (fun e=>absurd e (by decide)) (fun e=>absurd e (by decide)) (fun e=>absurd e (by decide))
 ·obtain⟨_,_,cs,hc⟩:=h.ofI q1 q2
  exact acq g hc (by decide) (by decide) (fun e=>absurd e (by decide)) (fun e=>absurd e (by decide)) (fun _=>h.ai vi q1 k q2)
theorem ahz (h:ZQ B w zb m N T nw xw here known) {P:PHp} {D:DataW Unit} (g:HpG B w m.hp m.mb P D m.n m.vyo m.vyf m.voo m.vof m.vn) {k:Nat} (hk:k<B):OutH m k :=
 ⟨by have:=h.hl.1;omega,by have:=h.hl.2;omega,fun e=>by have:=(zp g.at'.yo k e).1;omega,fun e=>by have:=(zp g.at'.yf k e).1;omega,fun e=>by have:=(zp g.at'.oo k e).1;omega,fun e=>by have:=(zp g.at'.of' k e).1;omega,fun e=>by have:=(zp g.at'.nt k e).1;omega⟩
end
abbrev ZR (B:Nat) (w:World) (zb:Nat) (m:ZM) (N:ZN) (T:List Th) (wh:List HV) (here known:List Bool):Prop:=ZQ B w zb m N T wh.length (wh.flatMap aaw) here known
structure ZS where
 P:PHp
 D:DataW Unit
 T:List Th
 wh:List HV
 here:List Bool
 known:List Bool
 ad:Nat→Int
def aau (P:PHp):ZN:=⟨P.ro,P.ry,((P.Y.length+(zg P.Y).length:Nat):Int),((P.O.length+(zg P.O).length:Nat):Int),P.minors,P.majors⟩
structure Few' (k:Nat) (P:PHp) (T:List Th) (n:Nat):Prop where
 k60:k≤60
 t:T.length≤k
 c:P.Y.length+P.O.length≤k
 f:(zg P.Y).length+(zg P.O).length≤1000*k
 y:P.fy+2*P.Y.length≤2+200*k
 o:P.fo+2*P.O.length≤2+200*k
 n:n≤100*k
 nt:P.noted.length≤k
 rm:1≤P.ry∧P.ry≤65536∧1≤P.ro∧P.ro≤1048576
structure ZAt (B k:Nat) (w:World) (zb:Nat) (m:ZM) (s:ZS):Prop where
 hg:HpG B w m.hp m.mb s.P s.D m.n m.vyo m.vyf m.voo m.vof m.vn
 zr:ZR B w zb m (aau s.P) s.T s.wh s.here s.known
 zi:Zi s.P s.D s.T s.wh s.here s.known s.ad
 fw:Few' k s.P s.T m.n
def ZNext (B k zb:Nat) (w w':World):Prop:=∃m s,ZAt B k w' zb m s∧Below B w w'∧w'.cell? ⟨zb,0,none⟩=w.cell? ⟨zb,0,none⟩
theorem ZQ.hp0 {B:Nat} {w w':World} {zb:Nat} {m m':ZM} {N N':ZN} {T T':List Th} {nw nw':Nat} {xw xw':List Value} {here known here' known':List Bool} (h:ZQ B w zb m N T nw xw here known) (h':ZQ B w' zb m' N' T' nw' xw' here' known') (e:m'.hp=m.hp):w'.cell? ⟨zb,0,none⟩=w.cell? ⟨zb,0,none⟩:=by
 have h1:w.cell? ⟨zb,0,none⟩=some (.pointer (some ⟨m.hp,0,none⟩)):=zd h.blk 0
 have h2:w'.cell? ⟨zb,0,none⟩=some (.pointer (some ⟨m'.hp,0,none⟩)):=zd h'.blk 0
 rw[h1,h2,e]
end
theorem tka {P:Program} {ops:Array Oper} {Q:Exit→Act→World→Prop} {md:Region.Mode} {S:World→Prop} (i s:Nat) {op:Op} {ty:TypeId} {pos:String} {af:Array Edge} {gd:Option (Nat×Bool)} {v:Value} {fuel:Nat} {listed:Array Bool} {tmps:Array Value} {df:List Deferred} {w:World} (hi:ops[i]?=some ⟨some s,op,ty,pos,af,gd⟩)
  (h:wpAnyH P md ops Q S fuel (listed.setIfInBounds i true) ⟨tmps.setIfInBounds s v,df⟩ w)
  (hy:∀w',S w'→(execOp (Act.eval ⟨tmps,df⟩) ⟨some s,op,ty,pos,af,gd⟩).run P w'=.ok (.value v) w':=by (intro w h;(try dsimp only at h);go_simp;(try with_reducible rfl))) (hs:Region.noSelect ops=true:=by kernel_rfl) (hf:Region.free md ops listed i=true:=by kernel_rfl) (hr:(Region.ready md ops listed).contains i=true:=by kernel_rfl) (hQ:∀c a w,Q (.panic c) (Act.put a (some s) v) w→Q (.panic c) a w:=by exact fun _ _ _ h=>h) (hw:Region.wanted ⟨some s,op,ty,pos,af,gd⟩ (yielded ops tmps)=true:=by rfl) (hS:S w:=by assumption):wpAnyH P md ops Q S (fuel+1) listed ⟨tmps,df⟩ w :=
 wpAnyH_take hi hs hf hr hQ (Or.inl ⟨hw,hy⟩) hS h
theorem tku {P:Program} {ops:Array Oper} {Q:Exit→Act→World→Prop} {md:Region.Mode} {S:World→Prop} (i s:Nat) {op:Op} {ty:TypeId} {pos:String} {af:Array Edge} {gd:Option (Nat×Bool)} {fuel:Nat} {listed:Array Bool} {tmps:Array Value} {df:List Deferred} {w:World} (hi:ops[i]?=some ⟨some s,op,ty,pos,af,gd⟩)
  (h:wpAnyH P md ops Q S fuel (listed.setIfInBounds i true) ⟨tmps.setIfInBounds s undef,df⟩ w)
  (hs:Region.noSelect ops=true:=by kernel_rfl) (hf:Region.free md ops listed i=true:=by kernel_rfl) (hr:(Region.ready md ops listed).contains i=true:=by kernel_rfl) (hQ:∀c a w,Q (.panic c) (Act.put a (some s) undef) w→Q (.panic c) a w:=by exact fun _ _ _ h=>h) (hw:Region.wanted ⟨some s,op,ty,pos,af,gd⟩ (yielded ops tmps)=false:=by rfl) (hS:S w:=by assumption):wpAnyH P md ops Q S (fuel+1) listed ⟨tmps,df⟩ w :=
 wpAnyH_take hi hs hf hr hQ (Or.inr ⟨hw,rfl⟩) hS h
end Go.Proofs.YtpnghfghdbijlaaGreatDoor
