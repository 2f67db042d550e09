/- A part. -/
import Derived.Test.YtpnghfghdbijlaaGreatDoorM22
open Go.Proofs.Tryz
namespace Go.Proofs.YtpnghfghdbijlaaGreatDoor
open Go.RowKit
set_option linter.unusedVariables false
set_option linter.unusedSimpArgs false
set_option maxRecDepth 100000
set_option maxHeartbeats 40000000
section
open Go.RowKit Go.Maps
def aat (rs:List Nat):List Int:=rs.map fun (j:Nat)=>(j:Int)+1
theorem ad1 (rs:List Nat):(aat rs).length=rs.length:=List.length_map ..
structure Ch (n k:Nat) (known:List Bool) (rs:List Nat) (ds:List Bool):Prop where
 kn:∀j∈rs,j<k∧known[j]?=some true
 nd:rs.Nodup
 len:ds.length=n
 ds:∀j,j<n→ds[j]?=some (decide (j∈rs))
theorem Ch.cnt {n k:Nat} {known:List Bool} {rs:List Nat} {ds:List Bool} (h:Ch n k known rs ds) (hk:k≤60):rs.length≤60:=by
 have h1:(aat rs).Nodup:=af1 h.nd (fun a _ b _ e=>by omega)
 have:=afd (l:=aat rs) (l':=aat (List.range k)) h1 (fun x hx=>by
  obtain⟨j,hj,rfl⟩:=List.mem_map.1 hx
  exact List.mem_map.2 ⟨j,List.mem_range.2 (h.kn j hj).1,rfl⟩)
 rw[ad1,ad1,List.length_range] at this
 omega
theorem Ch.next {n k:Nat} {known:List Bool} {rs:List Nat} {ds:List Bool} (h:Ch n k known rs ds):Ch n (k+1) known rs ds:=⟨fun j hj=>⟨Nat.lt_succ_of_lt (h.kn j hj).1,(h.kn j hj).2⟩,h.nd,h.len,h.ds⟩
def ac1 (T:List Th) (here:List Bool) (k:Nat):List Nat:=(List.range k).filter fun j=>(here[j]?==some true)&&(match T[j]? with | some t=>t.old | none=>false)
theorem aou (T:List Th) (here:List Bool) (k:Nat):ac1 T here (k+1)=ac1 T here k++(if (here[k]?==some true)&&(match T[k]? with | some t=>t.old | none=>false) then [k] else []):=by
 unfold ac1
 rw[List.range_succ,List.filter_append]
 congr 1
 simp only[List.filter_cons,List.filter_nil]
theorem alh (T:List Th) (here:List Bool) (k:Nat):(ac1 T here k).length≤k:=by
 have:=List.length_filter_le (fun j=>(here[j]?==some true)&&(match T[j]? with | some t=>t.old | none=>false)) (List.range k)
 rw[List.length_range] at this
 exact this
theorem aki (rs:List Nat) (j:Nat):aat (rs++[j])=aat rs++[(j:Int)+1]:=by simp[aat]
theorem Ch.more {n k:Nat} {known:List Bool} {rs:List Nat} {ds:List Bool} (h:Ch n k known rs ds) (hk:known[k]?=some true) (hn:k<n):Ch n (k+1) known (rs++[k]) (ds.set k true):=by
 refine⟨fun j hj=>?_,List.nodup_append.2 ⟨h.nd,by simp,fun x hx y hy e=>?_⟩,by rw[List.length_set];exact h.len,fun j hj=>?_⟩
 ·rcases List.mem_append.1 hj with q | q
  ·exact⟨Nat.lt_succ_of_lt (h.kn j q).1,(h.kn j q).2⟩
  ·rw[List.mem_singleton.1 q];exact⟨Nat.lt_succ_self _,hk⟩
 ·have:=(h.kn x hx).1
  rw[List.mem_singleton.1 hy] at e
  omega
 ·rw[List.getElem?_set,h.len]
  by_cases e:k=j
  ·subst e
   rw[if_pos rfl,if_pos hn]
   simp
  ·rw[if_neg e,h.ds j hj]
   congr 1
   simp[List.mem_append,show ¬j=k from fun q=>e q.symm]
theorem ai9 {B k:Nat} {w wx:World} {zb bz sb gw:Nat} {m:ZM} {s:ZS} (h:ZAt B k w zb m s) {wt a b c bits:Int} {vr vd:Value} {rs os:List Nat} {ds:List Bool} {gt gf:Option Addr} {ct cf:Nat} (z:ZQ B wx zb m (aau s.P) s.T s.wh.length (s.wh.flatMap aaw) s.here s.known) (hvt:m.vt=.slice gt s.T.length ct) (hca:Ca w.heap.size wx zb bz sb gw wt a b c bits vr (.slice gf (aat (rs++os)).length cf) vd rs (aat (rs++os)) ds) (hch:Ch s.T.length s.T.length s.known rs ds) (hos:os=if wt=2 then ac1 s.T s.here s.T.length else []) (hTl:s.T.length≤60) :
  Calls prog 37 #[.slice gt s.T.length ct,.slice gf (aat (rs++os)).length cf] wx fun e w'=>ak6 (s.T.map Th.is) (aat (rs++os)) wx e w':=by
 have hol:os.length≤60:=by
  rw[hos]
  split
  ·have:=alh s.T s.here s.T.length;omega
  ·exact Nat.zero_le _
 have hcn:=hch.cnt hTl
 have:=ap3 (w:=wx) (gl:=gt) (gf:=gf) (cl:=ct) (cf:=cf) (T:=s.T.map Th.is) (fr:=aat (rs++os)) (fun L hL=>by
  obtain⟨t,ht,rfl⟩:=List.mem_map.1 hL
  have h1:=h.zi.sz t ht
  refine⟨by omega,fun x hx=>?_⟩
  have h2:=h.zi.cs t ht x hx
  rw[List.length_map]
  exact⟨⟨by omega,by omega⟩,h2.2⟩) (by rw[List.length_map];omega) (z.thAt hvt) (fun i x hi=>by
  have hil:=(List.getElem?_eq_some_iff.1 hi).1
  obtain⟨g1,c1,e1,_,q1,_⟩:=aa1 hca.rf (j:=i) (by omega)
  injection e1 with e1
  exact⟨g1,0,e1,by rw[Nat.zero_add,q1,List.getElem?_map,hi];rfl⟩) (by rw[ad1,List.length_append];omega) (fun x hx=>by
  obtain⟨j,hj,rfl⟩:=List.mem_map.1 hx
  have hjl:j<s.T.length:=by
   rcases List.mem_append.1 hj with q | q
   ·exact(hch.kn j q).1
   ·rw[hos] at q
    split at q
    ·exact List.mem_range.1 (List.mem_filter.1 q).1
    ·cases q
  rw[List.length_map]
  exact⟨⟨by omega,by omega⟩,by omega⟩)
 rw[List.length_map] at this
 exact this
end
section
open Go.RowKit Go.Maps
theorem aov {α:Type} (f:α→Nat) (c:Nat):∀l:List α,(∀a∈l,f a≤c)→(l.map f).sum≤c*l.length
 | [],_=>by simp
 | a :: r,h=>by
  have h1:=aov f c r (fun b hb=>h b (List.mem_cons_of_mem _ hb))
  have h2:=h a (List.mem_cons_self ..)
  rw[List.map_cons,List.sum_cons,List.length_cons,Nat.mul_add]
  omega
theorem Rep.few {P:PHp} {T:List Th} {here:List Bool} {ad:Nat→Int} (h:Rep P T here ad) (hs:Small P) (hz:∀t∈T,t.is.length≤1000):P.Y.length+P.O.length≤T.length∧(zg P.Y).length+(zg P.O).length≤1000*(P.Y.length+P.O.length):=by
 have hl:(idx here).length=P.Y.length+P.O.length:=by
  have:=(h.perm hs).length_eq
  simp only[List.length_map,List.length_append,aec,List.length_range] at this
  exact this
 have h1:(idx here).length≤T.length:=by
  unfold idx
  have:=List.length_filter_le (fun i=>here[i]?==some true) (List.range here.length)
  exact Nat.le_trans this (by rw[List.length_range];exact Nat.le_of_eq h.len)
 refine⟨by omega,?_⟩
 have h2:((aec P.fy P.Y.length++aec P.fo P.O.length).map (szA P)).sum=P.Y.length+(zg P.Y).length+(P.O.length+(zg P.O).length):=by
  rw[List.map_append,List.sum_append_nat,aff P.fy (szA P) P.Y (fun j x hj=>by simp[szA,abx hj]),aff P.fo (szA P) P.O (fun j x hj=>by simp[szA,abm hs hj])]
 have h3:=((h.perm hs).map (szA P)).sum_nat
 have h4:=aov (szA P) 1001 ((idx here).map ad) (fun a ha=>by
  obtain⟨i,hi,rfl⟩:=List.mem_map.1 ha
  obtain⟨t,ht⟩:=h.th (adg.1 hi)
  obtain⟨x,hx,k⟩:=h.obj i t ht (adg.1 hi)
  have:=hz t (List.mem_of_getElem? ht)
  simp only[szA,hx,k.len]
  omega)
 rw[List.length_map,hl] at h4
 omega
def abn (gw:Nat) (ad:Nat→Int) (rs:List Nat):List (Option (Nat×Nat×HV)):=rs.map fun j=>some (gw,j*3,toA (ad j))
theorem acl {gw:Nat} {ad:Nat→Int} {rs:List Nat} {rb ro:Nat} {v:HV}:some (rb,ro,v)∈abn gw ad rs↔∃j∈rs,rb=gw∧ro=j*3∧v=toA (ad j):=by
 unfold abn
 rw[List.mem_map]
 constructor
 ·rintro ⟨j,hj,e⟩
  injection e with e
  injection e with e1 e2
  injection e2 with e2 e3
  exact⟨j,hj,e1.symm,e2.symm,e3.symm⟩
 ·rintro ⟨j,hj,rfl,rfl,rfl⟩
  exact⟨j,hj,rfl⟩
theorem ag4 (gw:Nat) (ad:Nat→Int):∀rs:List Nat,zy (abn gw ad rs)=rs.map fun j=>toA (ad j)
 | []=>rfl
 | j :: r=>by
  have:=ag4 gw ad r
  unfold zy abn at *
  rw[List.map_cons,List.filterMap_cons]
  simp only[Option.map_some,List.map_cons]
  rw[this]
section
variable {B k:Nat} {w wx:World} {zb bz sb gw:Nat} {m:ZM} {s:ZS} {wt a b c bits:Int} {vr vf vd:Value} {rs:List Nat} {fr:List Int} {ds:List Bool}
theorem aja (h:ZAt B k w zb m s) (hb:Below w.heap.size w wx) (hca:Ca w.heap.size wx zb bz sb gw wt a b c bits vr vf vd rs fr ds) {kk n:Nat} (hch:Ch n kk s.known rs ds) (hn:rs.length≤60) (hgw:0<s.T.length→m.vw.ownBlock=some gw) {gr:Option Addr} {cr:Nat} (hvr:vr=.slice gr rs.length cr) :
  RtFree wx m.hp m.mb m.vyo m.vyf m.voo m.vof gr (abn gw s.ad rs):=by
 have z:=h.zr.keep hb
 have key:∀j∈rs,s.here[j]?=some true∧s.wh[j]?=some (toA (s.ad j))∧m.vw.ownBlock=some gw:=fun j hj=>by
  obtain⟨h1,h2⟩:=h.zi.kn j (hch.kn j hj).2
  have hl:=(List.getElem?_eq_some_iff.1 h2).1
  have:=h.zi.lw
  exact⟨h1,h2,hgw (by omega)⟩
 have ln:(abn gw s.ad rs).length=rs.length:=by simp[abn]
 refine⟨⟨fun i r hi=>?_,fun rb ro v hv=>?_⟩,fun gb go e h0=>?_,fun rb ro v hv=>?_,fun rb ro v hv=>?_,fun rb ro v ro' v' h1 h2=>?_,fun rb ro v hv=>?_,by rw[ln];omega⟩
 ·unfold abn at hi
  rw[List.getElem?_map] at hi
  cases hj:rs[i]? with
  | none=>rw[hj] at hi;cases hi
  | some j =>
   rw[hj] at hi
   cases hi
   have hil:=(List.getElem?_eq_some_iff.1 hj).1
   obtain⟨g1,c1,e1,_,q1,_⟩:=aa1 hca.rr (j:=i) (by omega)
   rw[hvr] at e1
   injection e1 with e1
   exact⟨g1,0,e1,by rw[Nat.zero_add,q1,List.getElem?_map,hj];rfl⟩
 ·obtain⟨j,hj,rfl,rfl,rfl⟩:=acl.1 hv
  obtain⟨_,h2,h3⟩:=key j hj
  obtain⟨ga,ca,hva⟩:=aaa z.wr
  obtain⟨g0,e,e2,q0,q1,q2,_⟩:=z.whCell h2 hva
  rw[h3] at e2
  cases e2
  exact⟨q0,q1,q2⟩
 ·rw[ln] at h0
  obtain⟨g1,c1,e1,_,q1,_⟩:=aa1 hca.rr (j:=0) (by omega)
  rw[hvr] at e1
  injection e1 with e1
  rw[e] at e1
  cases e1
  obtain⟨_,_,cs,hc⟩:=zp hca.rr gb (by rw[hvr,e];rfl)
  exact⟨cs,_,hc⟩
 ·obtain⟨j,hj,rfl,rfl,rfl⟩:=acl.1 hv
  obtain⟨_,_,cs,hc⟩:=zp z.wr rb (key j hj).2.2
  exact⟨cs,hc⟩
 ·obtain⟨j,hj,rfl,rfl,rfl⟩:=acl.1 hv
  exact h.zr.aw rb (key j hj).2.2
 ·obtain⟨j,hj,rfl,rfl,rfl⟩:=acl.1 h1
  obtain⟨j',hj',_,rfl,rfl⟩:=acl.1 h2
  omega
 ·obtain⟨j,hj,rfl,rfl,rfl⟩:=acl.1 hv
  obtain⟨h1,_⟩:=key j hj
  obtain⟨t,ht⟩:=h.zi.rep.th h1
  obtain⟨x,hx,_⟩:=h.zi.rep.obj j t ht h1
  exact ada h.hg.small hx
end
structure Pc (s:ZS) (P2:PHp) (D2:DataW Unit) (here2:List Bool) (ad2:Nat→Int) (rs:List Nat) (S:Nat→Bool):Prop where
 zi:∀(wh':List HV) (known':List Bool),wh'.length=s.T.length→known'.length=s.T.length→(∀i:Nat,known'[i]?=some true→here2[i]?=some true∧wh'[i]?=some (toA (ad2 i)))→Zi P2 D2 (abk s.T here2) wh' here2 known' ad2
 hs:here2=ac2 s.here S
 rt:∀j∈rs,here2[j]?=some true
 nY:P2.Y=[]
theorem Pc.zi0 {s:ZS} {P2:PHp} {D2:DataW Unit} {here2:List Bool} {ad2:Nat→Int} {rs:List Nat} {S:Nat→Bool} (h:Pc s P2 D2 here2 ad2 rs S):Zi P2 D2 (abk s.T here2) (List.replicate s.T.length acv) here2 (List.replicate s.T.length false) ad2 :=
 h.zi _ _ (by simp) (by simp) (fun i hi=>by
  rw[List.getElem?_replicate] at hi
  split at hi <;> cases hi)
theorem aqf {s:ZS} (z:Zi s.P s.D s.T s.wh s.here s.known s.ad) (hs:Small s.P) {gw:Nat} {rs:List Nat} {ds:List Bool} {n kk:Nat} (hch:Ch n kk s.known rs ds) {Mk M:MS} (e:MinEnd s.P (rs.map fun j=>toA (s.ad j)) Mk M) (hw:∀v∈rs.map fun j=>toA (s.ad j),aa0 M.L v) (mn:Int) :
  Pc s (aba s.P M.T mn) (abb s.D M.L) (ac2 s.here (abv s.T (aat (rs++ac1 s.T s.here s.T.length)))) (fun i=>(phi M.L (toA (s.ad i))).n) rs (abv s.T (aat (rs++ac1 s.T s.here s.T.length))):=by
 have om:∀i:Nat,i∈ac1 s.T s.here s.T.length↔s.here[i]?=some true∧∃t,s.T[i]?=some t∧t.old=true:=fun i=>by
  unfold ac1
  rw[List.mem_filter,List.mem_range]
  constructor
  ·rintro ⟨hi,q⟩
   rw[Bool.and_eq_true] at q
   refine⟨by simpa using q.1,s.T[i],List.getElem?_eq_getElem hi,?_⟩
   have:=q.2
   rw[List.getElem?_eq_getElem hi] at this
   exact this
  ·rintro ⟨h1,t,h2,h3⟩
   refine⟨(List.getElem?_eq_some_iff.1 h2).1,?_⟩
   rw[Bool.and_eq_true]
   refine⟨by simpa using h1,?_⟩
   rw[h2]
   exact h3
 have hr:∀v∈rs.map fun j=>toA (s.ad j),∃i:Nat,s.here[i]?=some true∧v=toA (s.ad i)∧(i:Int)+1∈aat (rs++ac1 s.T s.here s.T.length):=fun v hv=>by
  obtain⟨j,hj,rfl⟩:=List.mem_map.1 hv
  exact⟨j,(z.kn j (hch.kn j hj).2).1,rfl,List.mem_map.2 ⟨j,List.mem_append_left _ hj,rfl⟩⟩
 obtain⟨c,hS,hn⟩:=z.minor hs hr (fun x hx=>by
  obtain⟨j,hj,rfl⟩:=List.mem_map.1 hx
  rcases List.mem_append.1 hj with q | q
  ·have h1:=(z.kn j (hch.kn j q).2).1
   obtain⟨t,ht⟩:=z.rep.th h1
   exact⟨j,t,ht,rfl,h1,Or.inl (List.mem_map.2 ⟨j,q,rfl⟩)⟩
  ·obtain⟨h1,t,h2,h3⟩:=(om j).1 q
   exact⟨j,t,h2,rfl,h1,Or.inr h3⟩) (fun i t h1 h2 h3=>List.mem_map.2 ⟨i,List.mem_append_right _ ((om i).2 ⟨h2,t,h1,h3⟩),rfl⟩) e hw mn
 have hob:(M.L.map PL.objs).flatten=s.P.Y:=by
  rw[af2 (aae s.P).L M.L e.lat.objs]
  simp[aae]
 refine⟨fun wh' known' lw lk kn=>z.coll hs c hS (by rw[hob];exact List.sublist_append_left _ _) rfl rfl hn lw lk kn,rfl,fun j hj=>ab8.2 ⟨(z.kn j (hch.kn j hj).2).1,?_⟩,rfl⟩
 exact(hS j (z.kn j (hch.kn j hj).2).1).2 (hw _ (List.mem_map.2 ⟨j,hj,rfl⟩))
theorem ali {s:ZS} (z:Zi s.P s.D s.T s.wh s.here s.known s.ad) (hs:Small s.P) (h2:2≤s.P.fo) {rs:List Nat} {ds:List Bool} {n kk:Nat} (hch:Ch n kk s.known rs ds) {M:MS} (he:M=aai (Go.Proofs.YtpnghfghdbijlaaGreatDoor.pot (zv (zw s.P) (rs.map fun j=>toA (s.ad j)))) (zv (zw s.P) (rs.map fun j=>toA (s.ad j))) 0) (mj:Int) :
  Pc s (abd s.P M.T mj) (abb s.D M.L) (ac2 s.here (abv s.T (aat rs))) (fun i=>(phi M.L (toA (s.ad i))).n) rs (abv s.T (aat rs)):=by
 have hr:∀v∈rs.map fun j=>toA (s.ad j),∃i:Nat,s.here[i]?=some true∧v=toA (s.ad i)∧(i:Int)+1∈aat rs:=fun v hv=>by
  obtain⟨j,hj,rfl⟩:=List.mem_map.1 hv
  exact⟨j,(z.kn j (hch.kn j hj).2).1,rfl,List.mem_map.2 ⟨j,hj,rfl⟩⟩
 obtain⟨c,hS,hob,hn⟩:=z.major hs h2 hr (fun x hx=>by
  obtain⟨j,hj,rfl⟩:=List.mem_map.1 hx
  exact⟨j,rfl,(z.kn j (hch.kn j hj).2).1,List.mem_map.2 ⟨j,hj,rfl⟩⟩) he mj
 obtain⟨_,_,_,hw⟩:=ami h2 _ he
 refine⟨fun wh' known' lw lk kn=>z.coll hs c hS (by rw[hob];exact List.Sublist.refl _) rfl rfl hn lw lk kn,rfl,fun j hj=>ab8.2 ⟨(z.kn j (hch.kn j hj).2).1,?_⟩,rfl⟩
 exact(hS j (z.kn j (hch.kn j hj).2).1).2 (hw _ (List.mem_map.2 ⟨j,hj,rfl⟩))
theorem aow {s:ZS} {P2:PHp} {D2:DataW Unit} {here2:List Bool} {ad2:Nat→Int} {rs:List Nat} {S:Nat→Bool} (p:Pc s P2 D2 here2 ad2 rs S) (hT:s.T.length≤60) (hz:∀t∈s.T,t.is.length≤1000) {M:MS} (hc:Cap M) (hO:P2.O=M.T) (hf:P2.fo=M.ft) (h0:0≤P2.fy) (h1:P2.fy≤20000) (hy:P2.fy % 2=1) (ho:P2.fo % 2=0) (h2:2≤P2.fo) (h3:P2.fo≤20000)
  {B:Nat} {w':World} {hp mb n:Nat} {vto vtf:Value} (ha:HpAt B w' hp mb P2 (.slice none 0 0) (.slice none 0 0) vto vtf (.slice none 0 0)) (hm:w'.ownsMap prog 3 (plainElem prog 3) mb n D2) (hB:B≤w'.heap.size) :
  HpG B w' hp mb P2 D2 n (.slice none 0 0) (.slice none 0 0) vto vtf (.slice none 0 0)∧P2.O.length≤s.T.length∧(zg P2.O).length≤1000*s.T.length:=by
 have c1:=hc.cn
 have c2:=hc.top
 have c3:=hc.po
 have c4:=adl M
 have hnY:=p.nY
 have hpo:(zg M.T).length≤Go.Proofs.YtpnghfghdbijlaaGreatDoor.pot M:=by unfold Go.Proofs.YtpnghfghdbijlaaGreatDoor.pot;omega
 have sm:Small P2:=⟨h0,by omega,by rw[hnY];simp;omega,by rw[hO,hf];omega,hy,ho⟩
 have z0:=p.zi0
 have fe:=z0.rep.few sm (fun t ht=>z0.sz t ht)
 rw[acz,hnY] at fe
 simp only[List.length_nil,Nat.zero_add,zg,List.flatMap_nil] at fe
 have fe1:=fe.1
 have fe2:(zg P2.O).length≤1000*P2.O.length:=fe.2
 refine⟨⟨ha,hm,fun j hj=>(by cases hj),fun j hj=>(by cases hj),sm,⟨by rw[hnY];simp[zg],by omega⟩,h2,by rw[hnY];simp;omega,by rw[hnY];simp[zg] at fe2 ⊢;omega,by rw[hnY];simp;omega,fun x hx=>?_,hB⟩,fe1,by omega⟩
 rw[hnY,List.nil_append] at hx
 refine⟨?_,fun v hv=>?_⟩
 ·obtain⟨j,hj⟩:=List.getElem?_of_mem hx
  obtain⟨i,hi,ei⟩:=z0.rep.sur _ _ (abm sm hj)
  obtain⟨t,ht⟩:=z0.rep.th hi
  obtain⟨y,hy',q⟩:=z0.rep.obj i t ht hi
  rw[ei,abm sm hj] at hy'
  cases hy'
  have:=ahl z0.ids ht
  have h5:idC (abk s.T here2)≤(abk s.T here2).length:=by unfold idC;exact List.length_filter_le _ _
  rw[acz] at h5
  rw[q.id]
  exact⟨by omega,by omega⟩
 ·exact hc.nT v (by rw[hO] at hx;exact afo hx hv)
end
section
open Go.RowKit Go.Maps
structure Cb (B:Nat) (wx:World) (lb sm:Nat) (S:List Int):Prop where
 bk:wx.heap[lb]?=some (.cells #[.map (some sm)] 88 (0,0))
 se:SeenAt wx sm S
 ll:B≤lb
 ml:B≤sm
theorem Cb.keep {B:Nat} {wx w':World} {lb sm:Nat} {S:List Int} (h:Cb B wx lb sm S) (hk:KeepHi B wx w'):Cb B w' lb sm S :=
 ⟨(hk _ h.ll (hlt h.bk)).trans h.bk,h.se.keep (hk _ h.ml h.se.lt),h.ll,h.ml⟩
theorem KeepHi.trans {B:Nat} {a b c:World} (h:KeepHi B a b) (k:KeepHi B b c) (hs:a.heap.size≤b.heap.size):KeepHi B a c:=fun j h1 h2=>(k j h1 (Nat.lt_of_lt_of_le h2 hs)).trans (h j h1 h2)
theorem raw_row {B:Nat} {w w':World} {e:TypeId} {k n:Nat} {v:Value} {xs:List Value} (h:w.ownsRow B e k v n xs) (hs:∀g cs fr,v.ownBlock=some g→w.heap[g]?=some (.cells cs e fr)→∃cs',w'.heap[g]?=some (.cells cs' e fr)∧cs'.size=cs.size) :
  ∃xs',w'.ownsRow B e k v n xs'∧∀g,v.ownBlock=some g→∀j,j<n*k→xs'[j]?=w'.cell? ⟨g,j,none⟩:=by
 rcases h.2 with ⟨rfl,rfl⟩ | ⟨g,cap,cur,rfl,h2,h3,h4,h5,h6,h7⟩
 ·exact⟨[],⟨by simp,Or.inl ⟨rfl,rfl⟩⟩,fun g hg=>(by cases hg)⟩
 ·obtain⟨cs',e1,e2⟩:=hs g cur (0,0) rfl h3
  have hle:n*k≤cs'.size:=by
   rw[e2,h6]
   exact Nat.mul_le_mul_right _ h4
  refine⟨cs'.toList.take (n*k),⟨by rw[List.length_take];simp;omega,Or.inr ⟨g,cap,cs',rfl,h2,e1,h4,h5,by omega,rfl⟩⟩,fun g' hg' j hj=>?_⟩
  have hg':some g=some g':=hg'
  cases hg'
  rw[zd e1 j,List.getElem?_take,if_pos hj]
  simp
section
variable {B:Nat} {w w' wx wy:World} {zb:Nat} {m:ZM} {N:ZN} {T:List Th} {nw:Nat} {xw:List Value} {here known:List Bool}
theorem ZQ.coll (h:ZQ B w zb m N T nw xw here known) (hb:∀k,ae6 zb m k→m.vw.ownBlock≠some k→w'.heap[k]?=w.heap[k]?) {xw':List Value} (hw:w'.ownsRow B 69 3 m.vw nw xw') {vyo' vyf' voo' vof' vn':Value} {n':Nat} (h1:OwnNew w m.vyf vyf') (h2:OwnNew w m.vof vof') (h3:OwnNew w m.vn vn') :
  ZQ B w' zb { m with n:=n',vyo:=vyo',vyf:=vyf',voo:=voo',vof:=vof',vn:=vn' } N T nw xw' here known:=by
 have ty:∀{k:Nat} {cs:Array Value} {e:TypeId} {fr:Nat×Nat},w.heap[k]?=some (.cells cs e fr)→e≠69→m.vw.ownBlock≠some k:=fun hk hne e=>by
  obtain⟨_,_,cs,hc⟩:=zp h.wr _ e
  rw[hk] at hc
  injection hc with hc
  injection hc with _ hc _
  exact hne hc
 have mv:∀{v:Value} {n q:Nat} {xs:List Value} {e:TypeId},w.ownsRow B e q v n xs→(∀j,v.ownBlock=some j→ae6 zb m j)→e≠69→w'.ownsRow B e q v n xs:=fun hr hz hne=>zs hr fun j hj=>by
  obtain⟨_,_,cs,hc⟩:=zp hr j hj
  exact hb j (hz j hj) (ty hc hne)
 refine⟨(hb _ (Or.inl rfl) (ty h.blk (by decide))).trans h.blk,mv h.th (fun j hj=>Or.inr (Or.inl hj)) (by decide),hw,mv h.hr (fun j hj=>Or.inr (Or.inr (Or.inr (Or.inl hj)))) (by decide),mv h.kr (fun j hj=>Or.inr (Or.inr (Or.inr (Or.inr (Or.inl hj))))) (by decide),h.lb,h.lv,fun i t b vi g1 g2 g3=>?_,h.nb,h.ni,h.hk,h.zl,h.bl,h.hl,fun g hg=>⟨h1.ne (h.lt (Or.inr (Or.inr (Or.inl hg)))).2 (h.aw g hg).1,h2.ne (h.lt (Or.inr (Or.inr (Or.inl hg)))).2 (h.aw g hg).2⟩,fun vi hv g hg=>h3.ne (h.lt (Or.inr (Or.inr (Or.inr (Or.inr (Or.inr (Or.inr ⟨vi,hv,hg⟩))))))).2 (h.ai vi hv g hg)⟩
 obtain⟨q1,q2⟩:=h.ob i t b vi g1 g2 g3
 exact⟨(hb b (Or.inr (Or.inr (Or.inr (Or.inr (Or.inr (Or.inl (List.mem_of_getElem? g2))))))) (ty q1 (by decide))).trans q1,mv q2 (fun j hj=>Or.inr (Or.inr (Or.inr (Or.inr (Or.inr (Or.inr ⟨vi,List.mem_of_getElem? g3,hj⟩)))))) (by decide)⟩
end
def Xw (xw:List Value) (rs:List Nat) (ad:Nat→Int):Prop:=∀j∈rs,xw[j*3]?=some (.int .i64 4)∧xw[j*3+1]?=some (.int .i64 (ad j))∧xw[j*3+2]?=some (.string ⟨#[]⟩)
section
variable {B k:Nat} {w wx w':World} {zb bz sb gw:Nat} {m:ZM} {s:ZS} {wt a b c bits:Int} {vr vf vd:Value} {rs:List Nat} {fr:List Int} {ds:List Bool}
theorem out_hi (h:ZAt B k w zb m s) {q:Nat} (hq:w.heap.size≤q):OutH m q :=
 ⟨by have:=hlt h.hg.at'.blk;omega,by obtain⟨es,cl,hm,_⟩:=h.hg.own;have:=hlt hm;omega,fun e=>by have:=(zp h.hg.at'.yo q e).2.1;omega,fun e=>by have:=(zp h.hg.at'.yf q e).2.1;omega,fun e=>by have:=(zp h.hg.at'.oo q e).2.1;omega,fun e=>by have:=(zp h.hg.at'.of' q e).2.1;omega,fun e=>by have:=(zp h.hg.at'.nt q e).2.1;omega⟩
theorem ajb (h:ZAt B k w zb m s) (hb:Below w.heap.size w wx) {kk n:Nat} (hch:Ch n kk s.known rs ds) (hgw:0<s.T.length→m.vw.ownBlock=some gw) {M:MS} {gr:Option Addr} (rn:RtNow M w' gr (abn gw s.ad rs) (abn gw s.ad rs).length)
  (fr:∀q,q<wx.heap.size→OutH m q→¬acr (abn gw s.ad rs) q→w'.heap[q]?=wx.heap[q]?) (sz:∀q,q<wx.heap.size→OutH m q→∀cs t f,wx.heap[q]?=some (.cells cs t f)→∃cs',w'.heap[q]?=some (.cells cs' t f)∧cs'.size=cs.size)
  (hsz:wx.heap.size≤w'.heap.size) (hos:w'.os=wx.os) (htp:w'.tape=wx.tape) (hout:w'.output=wx.output) {vyo' vyf' voo' vof' vn':Value} {n':Nat} (h1:OwnNew wx m.vyf vyf') (h2:OwnNew wx m.vof vof') (h3:OwnNew wx m.vn vn') :
  (∃xw,ZQ B w' zb { m with n:=n',vyo:=vyo',vyf:=vyf',voo:=voo',vof:=vof',vn:=vn' } (aau s.P) s.T s.T.length xw s.here s.known∧Xw xw rs (fun i=>(phi M.L (toA (s.ad i))).n))∧Below B w w'∧KeepHi w.heap.size wx w':=by
 have z:=h.zr.keep hb
 have g:=h.hg.keep hb
 have hrb:∀q,acr (abn gw s.ad rs) q→q=gw∧m.vw.ownBlock=some gw:=fun q ⟨ro,v,hv⟩=>by
  obtain⟨j,hj,rfl,_,_⟩:=acl.1 hv
  have hl:=(List.getElem?_eq_some_iff.1 (h.zi.kn j (hch.kn j hj).2).2).1
  have:=h.zi.lw
  exact⟨rfl,hgw (by omega)⟩
 have hwl:=h.zi.lw
 obtain⟨xw,ho,hx⟩:=raw_row (w':=w') z.wr (fun q cs f hq hc=>sz q (hlt hc) (z.out g (Or.inr (Or.inr (Or.inl hq)))) cs _ f hc)
 rw[hwl] at ho hx
 refine⟨⟨xw,?_,fun j hj=>?_⟩,?_,fun q hq hl=>fr q hl (out_hi h hq) fun e=>?_⟩
 ·have zz:ZQ B wx zb m (aau s.P) s.T s.T.length (s.wh.flatMap aaw) s.here s.known:=by
   rw[←hwl]
   exact z
  exact zz.coll (fun q hz hne=>fr q (z.lt hz).2 (z.out g hz) fun e=>hne (by obtain⟨e1,e2⟩:=hrb q e;rw[e1];exact e2)) ho h1 h2 h3
 ·have hjl:=(List.getElem?_eq_some_iff.1 (h.zi.kn j (hch.kn j hj).2).2).1
  have hm:some (gw,j*3,toA (s.ad j))∈abn gw s.ad rs:=acl.2 ⟨j,hj,rfl,rfl,rfl⟩
  obtain⟨v1,v2,v3⟩:=rn.val _ _ _ hm
  rw[now_all M hm] at v1 v2 v3
  rw[amh] at v1 v2 v3
  have hv:=hgw (by omega)
  exact⟨(hx gw hv _ (by omega)).trans v1,(hx gw hv _ (by omega)).trans v2,(hx gw hv _ (by omega)).trans v3⟩
 ·refine(hb.mono h.hg.hB).trans ⟨hos,htp,hout,hsz,fun q hq=>fr q (Nat.lt_of_lt_of_le hq g.hB) (ahz z g hq) fun e=>?_⟩
  obtain⟨e1,e2⟩:=hrb q e
  have:=(zp h.zr.wr _ (e1 ▸ e2)).1
  omega
 ·obtain⟨e1,e2⟩:=hrb q e
  have:=(zp h.zr.wr _ (e1 ▸ e2)).2.1
  omega
end
structure Zk (B:Nat) (w w':World) (zb:Nat) (m:ZM) (P:PHp) (D:DataW Unit) (N:ZN) (T:List Th) (nw:Nat) (xw:List Value) (here known:List Bool):Prop where
 hg:HpG B w' m.hp m.mb P D m.n m.vyo m.vyf m.voo m.vof m.vn
 zr:ZQ B w' zb m N T nw xw here known
 bl:Below B w w'
section
variable {B:Nat} {w wc w':World} {zb:Nat} {m:ZM} {P:PHp} {D:DataW Unit} {N N':ZN} {T:List Th} {nw:Nat} {xw:List Value} {here known:List Bool}
theorem Zk.keep (h:Zk B w wc zb m P D N T nw xw here known) (hb:Below wc.heap.size wc w'):Zk B w w' zb m P D N T nw xw here known:=⟨h.hg.keep hb,h.zr.keep hb,h.bl.trans (hb.mono h.hg.hB)⟩
theorem Zk.one (h:Zk B w wc zb m P D N T nw xw here known) {q:Nat} (hz:ae6 zb m q) (ho:∀j,j≠q→w'.heap[j]?=wc.heap[j]?) (hs:w'.heap.size=wc.heap.size) (e1:w'.os=wc.os) (e2:w'.tape=wc.tape) (e3:w'.output=wc.output):HpG B w' m.hp m.mb P D m.n m.vyo m.vyf m.voo m.vof m.vn∧Below B w w' :=
 ⟨h.hg.far (fun j _ hn=>ho j fun e=>hn (e ▸ h.zr.out h.hg hz)) (by rw[hs];exact Nat.le_refl _),h.bl.trans ⟨e1,e2,e3,by rw[hs];exact Nat.le_refl _,fun j hj=>ho j (by have:=(h.zr.lt hz).1;omega)⟩⟩
theorem af6 (w:World) (a:Addr) (v:Value):(w.setCell a v).heap.size=w.heap.size:=by simp[World.setCell]
theorem Zk.num (h:Zk B w wc zb m P D N T nw xw here known) (i:Nat) (x:Value) (hc:(adc m N).setIfInBounds i x=adc m N'):Zk B w (wc.setCell ⟨zb,i,none⟩ x) zb m P D N' T nw xw here known:=by
 obtain⟨g,b⟩:=h.one (w':=wc.setCell ⟨zb,i,none⟩ x) (q:=zb) (Or.inl rfl) (fun j hj=>zo _ hj) (af6 _ _ _) rfl rfl rfl
 refine⟨g,h.zr.nums ?_ (fun k hk _=>zo _ hk),b⟩
 rw[←hc]
 exact aad h.zr.blk i x
theorem Zk.setHere (h:Zk B w wc zb m P D N T nw xw here known) {g cap:Nat} (hv:m.vh=.slice (some ⟨g,0,none⟩) here.length cap) (i:Nat) (x:Bool):Zk B w (wc.setCell ⟨g,i,none⟩ (.bool x)) zb m P D N T nw xw (here.set i x) known:=by
 have hvb:m.vh.ownBlock=some g:=by rw[hv];rfl
 obtain⟨gg,bb⟩:=h.one (w':=wc.setCell ⟨g,i,none⟩ (.bool x)) (q:=g) (Or.inr (Or.inr (Or.inr (Or.inl hvb)))) (fun j hj=>zo _ hj) (af6 _ _ _) rfl rfl rfl
 obtain⟨_,_,gcs,hgc⟩:=zp h.zr.hr g hvb
 have tn:∀{j:Nat} {cs:Array Value} {e:TypeId} {f:Nat×Nat},wc.heap[j]?=some (.cells cs e f)→e≠4→j≠g:=fun hj hne e=>by
  rw[e,hgc] at hj
  injection hj with hj
  injection hj with _ hj _
  exact hne hj.symm
 have mv:∀{v:Value} {n q:Nat} {xs:List Value} {e:TypeId},wc.ownsRow B e q v n xs→e≠4→(wc.setCell ⟨g,i,none⟩ (.bool x)).ownsRow B e q v n xs:=fun hr hne=>zs hr fun j hj=>by
  obtain⟨_,_,cs,hc⟩:=zp hr j hj
  exact zo _ (tn hc hne)
 have z:=h.zr
 refine⟨gg,⟨(zo _ (tn z.blk (by decide))).trans z.blk,mv z.th (by decide),mv z.wr (by decide),?_,zs z.kr fun j hj=>zo _ fun e=>z.hk g hvb (e ▸ hj),z.lb,z.lv,fun j u b vj h1 h2 h3=>?_,z.nb,z.ni,z.hk,z.zl,z.bl,z.hl,z.aw,z.ai⟩,bb⟩
 ·have:=acw z.hr hv (i:=i) (.bool x)
  rw[List.length_set,List.map_set]
  exact this
 ·obtain⟨q1,q2⟩:=z.ob j u b vj h1 h2 h3
  exact⟨(zo _ (tn q1 (by decide))).trans q1,mv q2 (by decide)⟩
theorem Zk.setKnown (h:Zk B w wc zb m P D N T nw xw here known) {g cap:Nat} (hv:m.vk=.slice (some ⟨g,0,none⟩) known.length cap) (i:Nat) (x:Bool):Zk B w (wc.setCell ⟨g,i,none⟩ (.bool x)) zb m P D N T nw xw here (known.set i x):=by
 have hvb:m.vk.ownBlock=some g:=by rw[hv];rfl
 obtain⟨gg,bb⟩:=h.one (w':=wc.setCell ⟨g,i,none⟩ (.bool x)) (q:=g) (Or.inr (Or.inr (Or.inr (Or.inr (Or.inl hvb))))) (fun j hj=>zo _ hj) (af6 _ _ _) rfl rfl rfl
 obtain⟨_,_,gcs,hgc⟩:=zp h.zr.kr g hvb
 have tn:∀{j:Nat} {cs:Array Value} {e:TypeId} {f:Nat×Nat},wc.heap[j]?=some (.cells cs e f)→e≠4→j≠g:=fun hj hne e=>by
  rw[e,hgc] at hj
  injection hj with hj
  injection hj with _ hj _
  exact hne hj.symm
 have mv:∀{v:Value} {n q:Nat} {xs:List Value} {e:TypeId},wc.ownsRow B e q v n xs→e≠4→(wc.setCell ⟨g,i,none⟩ (.bool x)).ownsRow B e q v n xs:=fun hr hne=>zs hr fun j hj=>by
  obtain⟨_,_,cs,hc⟩:=zp hr j hj
  exact zo _ (tn hc hne)
 have z:=h.zr
 refine⟨gg,⟨(zo _ (tn z.blk (by decide))).trans z.blk,mv z.th (by decide),mv z.wr (by decide),zs z.hr fun j hj=>zo _ fun e=>z.hk g (e ▸ hj) hvb,?_,z.lb,z.lv,fun j u b vj h1 h2 h3=>?_,z.nb,z.ni,z.hk,z.zl,z.bl,z.hl,z.aw,z.ai⟩,bb⟩
 ·have:=acw z.kr hv (i:=i) (.bool x)
  rw[List.length_set,List.map_set]
  exact this
 ·obtain⟨q1,q2⟩:=z.ob j u b vj h1 h2 h3
  exact⟨(zo _ (tn q1 (by decide))).trans q1,mv q2 (by decide)⟩
theorem Zk.setOld (h:Zk B w wc zb m P D N T nw xw here known) {i tb:Nat} {t:Th} (ht:T[i]?=some t) (hb:m.bs[i]?=some tb) (x:Bool):Zk B w (wc.setCell ⟨tb,3,none⟩ (.bool x)) zb m P D N (T.set i { t with old:=x }) nw xw here known:=by
 have hmem:=List.mem_of_getElem? hb
 obtain⟨gg,bb⟩:=h.one (w':=wc.setCell ⟨tb,3,none⟩ (.bool x)) (q:=tb) (Or.inr (Or.inr (Or.inr (Or.inr (Or.inr (Or.inl hmem)))))) (fun j hj=>zo _ hj) (af6 _ _ _) rfl rfl rfl
 obtain⟨gcs,hgc⟩:=h.zr.ofB hmem
 have tn:∀{j:Nat} {cs:Array Value} {e:TypeId} {f:Nat×Nat},wc.heap[j]?=some (.cells cs e f)→e≠65→j≠tb:=fun hj hne e=>by
  rw[e,hgc] at hj
  injection hj with hj
  injection hj with _ hj _
  exact hne hj.symm
 have mv:∀{v:Value} {n q:Nat} {xs:List Value} {e:TypeId},wc.ownsRow B e q v n xs→e≠65→(wc.setCell ⟨tb,3,none⟩ (.bool x)).ownsRow B e q v n xs:=fun hr hne=>zs hr fun j hj=>by
  obtain⟨_,_,cs,hc⟩:=zp hr j hj
  exact zo _ (tn hc hne)
 have z:=h.zr
 refine⟨gg,⟨(zo _ (tn z.blk (by decide))).trans z.blk,?_,mv z.wr (by decide),mv z.hr (by decide),mv z.kr (by decide),by rw[List.length_set];exact z.lb,by rw[List.length_set];exact z.lv,fun j u b vj h1 h2 h3=>?_,z.nb,z.ni,z.hk,z.zl,z.bl,z.hl,z.aw,z.ai⟩,bb⟩
 ·rw[List.length_set]
  exact mv z.th (by decide)
 ·rcases afi h1 with ⟨rfl,rfl,_⟩ | ⟨hne,h1⟩
  ·rw[hb] at h2
   cases h2
   obtain⟨q1,q2⟩:=z.ob j t tb vj ht hb h3
   refine⟨?_,mv q2 (by decide)⟩
   have:=aad q1 3 (.bool x)
   simpa [agk] using this
  ·obtain⟨q1,q2⟩:=z.ob j u b vj h1 h2 h3
   have hne2:b≠tb:=fun e=>hne (z.nb j i tb (e ▸ h2) hb)
   exact⟨(zo _ hne2).trans q1,mv q2 (by decide)⟩
theorem ani {w:World} {B:Nat} {e:TypeId} {k:Nat} {v:Value} {n:Nat} {xs:List Value} (h:w.ownsRow B e k v n xs) {g cap:Nat} (hv:v=.slice (some ⟨g,0,none⟩) n cap) (i:Nat) (a b c:Value) :
  (((w.setCell ⟨g,i,none⟩ a).setCell ⟨g,i+1,none⟩ b).setCell ⟨g,i+2,none⟩ c).ownsRow B e k v n (((xs.set i a).set (i+1) b).set (i+2) c):=acw (acw (acw h hv a) hv b) hv c
theorem Zk.setWh (h:Zk B w wc zb m P D N T nw xw here known) {g cap:Nat} (hv:m.vw=.slice (some ⟨g,0,none⟩) nw cap) (i:Nat) (a b c:Value):Zk B w (((wc.setCell ⟨g,i,none⟩ a).setCell ⟨g,i+1,none⟩ b).setCell ⟨g,i+2,none⟩ c) zb m P D N T nw (((xw.set i a).set (i+1) b).set (i+2) c) here known:=by
 have hvb:m.vw.ownBlock=some g:=by rw[hv];rfl
 have oth:∀j,j≠g→(((wc.setCell ⟨g,i,none⟩ a).setCell ⟨g,i+1,none⟩ b).setCell ⟨g,i+2,none⟩ c).heap[j]?=wc.heap[j]?:=fun j hj=>by rw[zo _ hj,zo _ hj,zo _ hj]
 obtain⟨gg,bb⟩:=h.one (w':=((wc.setCell ⟨g,i,none⟩ a).setCell ⟨g,i+1,none⟩ b).setCell ⟨g,i+2,none⟩ c) (q:=g) (Or.inr (Or.inr (Or.inl hvb))) oth (by simp[World.setCell]) rfl rfl rfl
 obtain⟨_,_,gcs,hgc⟩:=zp h.zr.wr g hvb
 have tn:∀{j:Nat} {cs:Array Value} {e:TypeId} {f:Nat×Nat},wc.heap[j]?=some (.cells cs e f)→e≠69→j≠g:=fun hj hne e=>by
  rw[e,hgc] at hj
  injection hj with hj
  injection hj with _ hj _
  exact hne hj.symm
 have mv:∀{v:Value} {n q:Nat} {xs:List Value} {e:TypeId},wc.ownsRow B e q v n xs→e≠69→(((wc.setCell ⟨g,i,none⟩ a).setCell ⟨g,i+1,none⟩ b).setCell ⟨g,i+2,none⟩ c).ownsRow B e q v n xs:=fun hr hne=>zs hr fun j hj=>by
  obtain⟨_,_,cs,hc⟩:=zp hr j hj
  exact oth j (tn hc hne)
 have z:=h.zr
 refine⟨gg,⟨(oth _ (tn z.blk (by decide))).trans z.blk,mv z.th (by decide),ani z.wr hv i a b c,mv z.hr (by decide),mv z.kr (by decide),z.lb,z.lv,fun j u b' vj h1 h2 h3=>?_,z.nb,z.ni,z.hk,z.zl,z.bl,z.hl,z.aw,z.ai⟩,bb⟩
 obtain⟨q1,q2⟩:=z.ob j u b' vj h1 h2 h3
 exact⟨(oth _ (tn q1 (by decide))).trans q1,mv q2 (by decide)⟩
end
end
section
open Go.RowKit Go.Maps
structure SameM (m m2:ZM):Prop where
 vt:m2.vt=m.vt
 vw:m2.vw=m.vw
 vh:m2.vh=m.vh
 vk:m2.vk=m.vk
 bs:m2.bs=m.bs
 vis:m2.vis=m.vis
 hp:m2.hp=m.hp
structure Cm (B k:Nat) (w wy:World) (zb:Nat) (s:ZS) (m m2:ZM) (P2:PHp) (D2:DataW Unit) (here2:List Bool) (ad2:Nat→Int) (rs:List Nat) (S:Nat→Bool) (xw:List Value) (N:ZN):Prop where
 zk:Zk B w wy zb m2 P2 D2 N s.T s.T.length xw s.here s.known
 xw':Xw xw rs ad2
 pc:Pc s P2 D2 here2 ad2 rs S
 fw:Few' (k+1) P2 s.T m2.n
 sm:SameM m m2
 rr:P2.ro=s.P.ro∧P2.ry=s.P.ry
section
variable {B k:Nat} {w wx w':World} {zb gw:Nat} {m:ZM} {s:ZS} {rs:List Nat} {ds:List Bool}
theorem aqg (h:ZAt B k w zb m s) (hk:k<60) (hb:Below w.heap.size w wx) {kk n:Nat} (hch:Ch n kk s.known rs ds) (hgw:0<s.T.length→m.vw.ownBlock=some gw) {gr:Option Addr} (q:aob B s.P s.D m.n m.hp m.mb gr (abn gw s.ad rs) m.voo m.vof wx w') :
  ∃m2 P2 D2 here2 ad2 xw,Cm B k w w' zb s m m2 P2 D2 here2 ad2 rs (abv s.T (aat (rs++ac1 s.T s.here s.T.length))) xw (aau s.P)∧P2.minors=wrap64 (s.P.minors+1)∧P2.majors=s.P.majors∧KeepHi w.heap.size wx w':=by
 obtain⟨Mk,M,n',vto',vtf',mn,q1,q2,q3,q4,q5,q6,q7,q8,q9,q10,q11,q12,q13,q14,q15,q16,q17,q18,q19,q20,q21,q22,q23⟩:=q
 rw[ag4] at q6
 have e:MinEnd s.P (rs.map fun j=>toA (s.ad j)) Mk M:=⟨q1,q2,q4,q5,q6,q7,q8,q9⟩
 have hw:∀v∈rs.map fun j=>toA (s.ad j),aa0 M.L v:=fun v hv=>by
  obtain⟨j,hj,rfl⟩:=List.mem_map.1 hv
  exact q11 _ _ _ (acl.2 ⟨j,hj,rfl,rfl,rfl⟩)
 have hs:=h.hg.small
 have f:=h.fw
 have f1:=f.k60
 have f2:=f.t
 have f3:=f.c
 have f5:=f.y
 have f6:=f.o
 have f7:=f.n
 have hy0:=hs.y0
 have hyo:=hs.yo
 have hoe:=hs.oe
 have ht:=h.hg.two
 have p:=aqf (gw:=gw) h.zi hs hch e hw mn
 obtain⟨⟨xw,zq,hx⟩,hbl,hkh⟩:=ajb (n':=n') (vyo':=.slice none 0 0) (vyf':=.slice none 0 0) (voo':=vto') (vof':=vtf') (vn':=.slice none 0 0) h hb hch hgw q12 (fun j hj ho hn=>q18 j hj ho.hp ho.mb ho.oo ho.of' hn) (fun j hj ho cs t fr hc=>q23 j hj ho.hp ho.mb ho.oo ho.of' cs t fr hc) q19 q20 q21 q22 (Or.inr fun j hj=>(by cases hj)) q17 (Or.inr fun j hj=>(by cases hj))
 obtain⟨hg,g1,g2⟩:=aow p (by omega) h.zi.sz q3 rfl q5.symm (show 0≤s.P.fy+2*s.P.Y.length by omega) (show s.P.fy+2*(s.P.Y.length:Int)≤20000 by omega) (show (s.P.fy+2*(s.P.Y.length:Int)) % 2=1 by omega) hoe ht (show s.P.fo≤20000 by omega) q13 q14 (Nat.le_trans h.hg.hB (Nat.le_trans hb.size q19))
 have g1:M.T.length≤s.T.length:=g1
 have g2:(zg M.T).length≤1000*s.T.length:=g2
 refine⟨{ m with n:=n',vyo:=.slice none 0 0,vyf:=.slice none 0 0,voo:=vto',vof:=vtf',vn:=.slice none 0 0 },_,_,_,_,xw,⟨⟨hg,zq,hbl⟩,hx,p,⟨by omega,by omega,?_,?_,?_,?_,?_,?_,f.rm⟩,⟨rfl,rfl,rfl,rfl,rfl,rfl,rfl⟩,rfl,rfl⟩,q10,rfl,hkh⟩
 ·show 0+M.T.length≤k+1
  omega
 ·show (zg []).length+(zg M.T).length≤1000*(k+1)
  simp[zg] at g2 ⊢
  omega
 ·show s.P.fy+2*(s.P.Y.length:Int)+2*((([]:List HO).length:Nat):Int)≤_
  simp
  omega
 ·show s.P.fo+2*(M.T.length:Int)≤_
  omega
 ·show n'≤_
  omega
 ·exact Nat.zero_le _
theorem aqh (h:ZAt B k w zb m s) (hk:k<60) (hb:Below w.heap.size w wx) {kk n:Nat} (hch:Ch n kk s.known rs ds) (hgw:0<s.T.length→m.vw.ownBlock=some gw) {gr:Option Addr} (q:MajorPost B s.P s.D m.n m.hp m.mb gr (abn gw s.ad rs) wx w') (qs:MajSz m.hp m.mb (wrap64 (s.P.majors+1)) wx w') :
  ∃m2 P2 D2 here2 ad2 xw,Cm B k w w' zb s m m2 P2 D2 here2 ad2 rs (abv s.T (aat rs)) xw (aau s.P)∧P2.minors=s.P.minors∧P2.majors=wrap64 (s.P.majors+1)∧KeepHi w.heap.size wx w':=by
 obtain⟨M,n',vto',vtf',mj,q1,q2,q3,q4,q5,q6,q7,q8,q9,q10,q11,q12,q13,q14,q15,q16,q17⟩:=q
 obtain⟨qm,qz⟩:=qs
 have hmj:mj=wrap64 (s.P.majors+1):=by
  have e:w'.cell? ⟨m.hp,12,none⟩=some (.int .i64 mj):=zd q8.blk 12
  rw[e] at qm
  injection qm with qm
  injection qm
 rw[ag4] at q5
 have hs:=h.hg.small
 have f:=h.fw
 have f1:=f.k60
 have f2:=f.t
 have f3:=f.c
 have f5:=f.y
 have f6:=f.o
 have f7:=f.n
 have hy0:=hs.y0
 have hyo:=hs.yo
 have hoe:=hs.oe
 have ht:=h.hg.two
 have p:=ali h.zi hs ht hch q5 mj
 obtain⟨⟨xw,zq,hx⟩,hbl,hkh⟩:=ajb (n':=n') (vyo':=.slice none 0 0) (vyf':=.slice none 0 0) (voo':=vto') (vof':=vtf') (vn':=.slice none 0 0) h hb hch hgw q7 (fun j hj ho hn=>q13 j hj ho.hp ho.mb hn) (fun j hj ho cs t fr hc=>qz j hj ho.hp ho.mb cs t fr hc) q14 q15 q16 q17 (Or.inr fun j hj=>(by cases hj)) (Or.inr q12) (Or.inr fun j hj=>(by cases hj))
 obtain⟨hg,g1,g2⟩:=aow p (by omega) h.zi.sz q2 rfl q4.symm (show 0≤s.P.fy+2*s.P.Y.length by omega) (show s.P.fy+2*(s.P.Y.length:Int)≤20000 by omega) (show (s.P.fy+2*(s.P.Y.length:Int)) % 2=1 by omega) (show (s.P.fo+2*(s.P.O.length:Int)) % 2=0 by omega) (show 2≤s.P.fo+2*(s.P.O.length:Int) by omega) (show s.P.fo+2*(s.P.O.length:Int)≤20000 by omega) q8 q9 (Nat.le_trans h.hg.hB (Nat.le_trans hb.size q14))
 have g1:M.T.length≤s.T.length:=g1
 have g2:(zg M.T).length≤1000*s.T.length:=g2
 refine⟨{ m with n:=n',vyo:=.slice none 0 0,vyf:=.slice none 0 0,voo:=vto',vof:=vtf',vn:=.slice none 0 0 },_,_,_,_,xw,⟨⟨hg,zq,hbl⟩,hx,p,⟨by omega,by omega,?_,?_,?_,?_,?_,?_,f.rm⟩,⟨rfl,rfl,rfl,rfl,rfl,rfl,rfl⟩,rfl,rfl⟩,rfl,hmj,hkh⟩
 ·show 0+M.T.length≤k+1
  omega
 ·show (zg []).length+(zg M.T).length≤1000*(k+1)
  simp[zg] at g2 ⊢
  omega
 ·show s.P.fy+2*(s.P.Y.length:Int)+2*((([]:List HO).length:Nat):Int)≤_
  simp
  omega
 ·show s.P.fo+2*(s.P.O.length:Int)+2*(M.T.length:Int)≤_
  omega
 ·show n'≤_
  omega
 ·exact Nat.zero_le _
theorem anj (h:ZAt B k w zb m s) {kk n:Nat} (hch:Ch n kk s.known rs ds):abe (abv s.T (aat rs)) 0 s.here (s.T.map Th.is)=(ade s.P (abn gw s.ad rs)).T.length+(zg (ade s.P (abn gw s.ad rs)).T).length:=by
 have hs:=h.hg.small
 have ht:=h.hg.two
 have he:ade s.P (abn gw s.ad rs)=aai (Go.Proofs.YtpnghfghdbijlaaGreatDoor.pot (zv (zw s.P) (rs.map fun j=>toA (s.ad j)))) (zv (zw s.P) (rs.map fun j=>toA (s.ad j))) 0:=by
  unfold ade
  rw[ag4]
 have p:=ali h.zi hs ht hch he 0
 have hfew:=ajl ht (rs.map fun j=>toA (s.ad j)) he
 have h1:=h.hg.top
 have h2:=h.hg.cnt
 have hy0:=hs.y0
 have hy1:=hs.y1
 have hyo:=hs.yo
 have hoe:=hs.oe
 have sm:Small (abd s.P (ade s.P (abn gw s.ad rs)).T 0):=⟨show 0≤s.P.fy+2*(s.P.Y.length:Int) by omega,show 0≤s.P.fo+2*(s.P.O.length:Int) by omega,show s.P.fy+2*(s.P.Y.length:Int)+2*((([]:List HO).length:Nat):Int)≤4611686018427387904 by simp;omega,show s.P.fo+2*(s.P.O.length:Int)+2*((ade s.P (abn gw s.ad rs)).T.length:Int)≤4611686018427387904 by omega,show (s.P.fy+2*(s.P.Y.length:Int)) % 2=1 by omega,show (s.P.fo+2*(s.P.O.length:Int)) % 2=0 by omega⟩
 have:=p.zi0.rep.cells sm
 have e2:(abk s.T (ac2 s.here (abv s.T (aat rs)))).map Th.is=s.T.map Th.is:=by
  apply List.ext_getElem?
  intro i
  rw[List.getElem?_map,List.getElem?_map]
  unfold abk
  rw[List.getElem?_mapIdx]
  cases s.T[i]? <;> rfl
 rw[e2] at this
 rw[akc]
 simp only[Nat.zero_add]
 refine this.trans ?_
 show ([]:List HO).length+(zg []).length+_=_
 simp[zg,abd]
end
end
end Go.Proofs.YtpnghfghdbijlaaGreatDoor
