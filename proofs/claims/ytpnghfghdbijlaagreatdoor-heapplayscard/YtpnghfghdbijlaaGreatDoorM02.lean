/- A part. -/
import Derived.Test.YtpnghfghdbijlaaGreatDoorM01
open Go.Proofs.Tryz
namespace Go.Proofs.YtpnghfghdbijlaaGreatDoor
open Go.RowKit
set_option linter.unusedVariables false
set_option linter.unusedSimpArgs false
set_option maxRecDepth 100000
set_option maxHeartbeats 40000000
structure PL where
 first:Int
 objs:List HO
 went:List Int
def acf (f:Int) (n:Nat) (a:Int):Option Nat:=if f≤a∧(a-f) % 2=0∧(a-f) / 2<n then some ((a-f) / 2).toNat else none
theorem aa3 {f:Int} {n:Nat} {a:Int} {i:Nat}:acf f n a=some i↔i<n∧a=f+2*i:=by
 unfold acf
 constructor
 ·intro h
  split at h
  ·cases h
   omega
  ·cases h
 ·rintro ⟨h1,rfl⟩
  rw[if_pos (by omega)]
  congr 1
  omega
theorem amn {f:Int} {n:Nat} {a:Int} (h:acf f n a=none):∀i:Nat,i<n→a≠f+2*i:=fun i hi e=>by
 rw[aa3.2 ⟨hi,e⟩] at h
 cases h
def aab:List PL→Nat→Int→Option (Nat×Nat)
 | [],_,_=>none
 | p :: r,j,a=>match acf p.first p.objs.length a with
  | some i=>some (j,i)
  | none=>aab r (j+1) a
def aak (L:List PL) (q:Nat×Nat):Option HO:=(L[q.1]?).bind fun p=>p.objs[q.2]?
def aaf (L:List PL) (q:Nat×Nat):Int:=((L[q.1]?).bind fun p=>p.went[q.2]?).getD 0
def aar (L:List PL) (q:Nat×Nat) (a:Int):List PL:=L.modify q.1 fun p=>{ p with went:=p.went.set q.2 a }
def Full (L:List PL):Prop:=∀p∈L,p.went.length=p.objs.length
theorem ah3:∀{L:List PL} {j:Nat} {a:Int} {q:Nat×Nat},aab L j a=some q→∃p,j≤q.1∧L[q.1-j]?=some p∧q.2<p.objs.length∧a=p.first+2*q.2
 | p :: r,j,a,q,h=>by
  rw[aab] at h
  split at h
  ·rename_i i hi
   cases h
   have:=aa3.1 hi
   exact⟨p,Nat.le_refl _,by simp,this.1,this.2⟩
  ·obtain⟨p',h1,h2,h3,h4⟩:=ah3 h
   refine⟨p',by omega,?_,h3,h4⟩
   rw[show q.1-j=(q.1-(j+1))+1 by omega,List.getElem?_cons_succ]
   exact h2
theorem ae8 {L:List PL} {a:Int} {q:Nat×Nat} (h:aab L 0 a=some q):∃p x,L[q.1]?=some p∧p.objs[q.2]?=some x∧aak L q=some x∧a=p.first+2*q.2:=by
 obtain⟨p,h1,h2,h3,h4⟩:=ah3 h
 rw[Nat.sub_zero] at h2
 exact⟨p,_,h2,List.getElem?_eq_getElem h3,by simp[aak,h2,List.getElem?_eq_getElem h3],h4⟩
theorem ah4 (q:Nat×Nat) (a:Int):∀(L:List PL) (j:Nat) (k:Nat) (b:Int),aab (L.modify k fun p=>{ p with went:=p.went.set q.2 a }) j b=aab L j b
 | [],j,k,b=>by simp[aab]
 | p :: r,j,0,b=>by simp[aab]
 | p :: r,j,k+1,b=>by
  simp only[List.modify_succ_cons,aab,ah4 q a r]
theorem ad8 (L:List PL) (q:Nat×Nat) (a b:Int):aab (aar L q a) 0 b=aab L 0 b:=ah4 q a L 0 q.1 b
theorem adb (L:List PL) (q q':Nat×Nat) (a:Int):aak (aar L q a) q'=aak L q':=by
 unfold aak aar
 rw[List.getElem?_modify]
 split
 ·cases L[q'.1]? <;> rfl
 ·cases L[q'.1]? <;> rfl
theorem Full.set {L:List PL} (h:Full L) (q:Nat×Nat) (a:Int):Full (aar L q a):=by
 intro p hp
 obtain⟨k,hk⟩:=List.getElem?_of_mem hp
 unfold aar at hk
 rw[List.getElem?_modify] at hk
 cases hL:L[k]? with
 | none=>rw[hL] at hk;simp at hk
 | some p' =>
  rw[hL] at hk
  have:=h p' (List.mem_of_getElem? hL)
  split at hk
  ·simp at hk;subst hk;simpa using this
  ·simp at hk;subst hk;exact this
theorem ago {L:List PL} (hf:Full L) {q:Nat×Nat} {x:HO} (hq:aak L q=some x) (a:Int) (q':Nat×Nat):aaf (aar L q a) q'=if q'=q then a else aaf L q':=by
 unfold aak at hq
 cases hL:L[q.1]? with
 | none=>rw[hL] at hq;cases hq
 | some p =>
  rw[hL] at hq
  have hlen:=hf p (List.mem_of_getElem? hL)
  have hx:q.2<p.objs.length:=(List.getElem?_eq_some_iff.1 (show p.objs[q.2]?=some x from hq)).1
  unfold aaf aar
  rw[List.getElem?_modify]
  by_cases e:q'=q
  ·subst e
   simp[hL,hlen,hx]
  ·rw[if_neg e]
   by_cases e1:q.1=q'.1
   ·have e2:q.2≠q'.2:=fun k=>e (Prod.ext e1.symm k.symm)
    rw[←e1,hL]
    simp[e2]
   ·simp[e1]
structure MS where
 ft:Int
 T:List HO
 L:List PL
def aaj (M:MS) (v:HV):MS×HV :=
 if v.kind≠4 then (M,v) else
 match aab M.L 0 v.n with
 | none=>(M,v)
 | some q =>
  if aaf M.L q≠0 then (M,{ v with n:=aaf M.L q }) else
  match aak M.L q with
  | none=>(M,v)
  | some x=>({ M with T:=M.T++[{ x with noted:=false }],L:=aar M.L q (M.ft+2*M.T.length) },{ v with n:=M.ft+2*M.T.length })
def aah:List HO→Nat→HV→List HO
 | [],_,_=>[]
 | x :: r,i,v=>if i<x.fs.length then { x with fs:=x.fs.set i v } :: r else x :: aah r (i-x.fs.length) v
theorem abr:∀(l:List HO) (i:Nat) (v:HV),(aah l i v).length=l.length
 | [],_,_=>rfl
 | x :: r,i,v=>by
  rw[aah]
  split
  ·rfl
  ·simp[abr r]
theorem afs:∀(l:List HO) (b i:Nat) (v:HV),aa7 b (aah l i v)=aa7 b l
 | [],_,_,_=>rfl
 | x :: r,b,i,v=>by
  rw[aah]
  split
  ·simp[aa7,aaz]
  ·simp only[aa7,afs r]
theorem abw:∀(l:List HO) (i:Nat) (v:HV),zg (aah l i v)=(zg l).set i v
 | [],_,_=>rfl
 | x :: r,i,v=>by
  rw[aah]
  split
  ·rename_i h
   simp only[zg,List.flatMap_cons]
   rw[List.set_append_left _ _ h]
  ·rename_i h
   have:=abw r (i-x.fs.length) v
   simp only[zg,List.flatMap_cons] at this ⊢
   rw[this,List.set_append_right _ _ (by omega)]
def aby (M:MS) (i:Nat):MS :=
 match (zg M.T)[i]? with
 | none=>M
 | some v=>{ (aaj M v).1 with T:=aah (aaj M v).1.T i (aaj M v).2 }
def aai:Nat→MS→Nat→MS
 | 0,M,_=>M
 | f+1,M,i=>if i<(zg M.T).length then aai f (aby M i) (i+1) else M
def zv (M:MS) (l:List HV):MS:=l.foldl (fun M v=>(aaj M v).1) M
def adt (f:HO→Nat) (L:List PL):Nat:=(L.map fun p=>((p.objs.zip p.went).map fun z=>if z.2=0 then f z.1 else 0).sum).sum
def ad9 (L:List PL):Nat:=adt (fun x=>x.fs.length) L
def cnt (M:MS):Nat:=M.T.length+adt (fun _=>1) M.L
def pot (M:MS):Nat:=(zg M.T).length+ad9 M.L
theorem agp (M:MS) (v:HV):(aaj M v).1.ft=M.ft:=by
 unfold aaj
 split
 ·rfl
 ·split
  ·rfl
  ·split
   ·rfl
   ·split <;> rfl
def hdr (x:HO):Int×Int×Int×Nat×Bool:=(x.kind,x.tag,x.id,x.fs.length,x.noted)
theorem adx:∀(l:List HO) (i:Nat) (v:HV),(aah l i v).map hdr=l.map hdr
 | [],_,_=>rfl
 | x :: r,i,v=>by
  rw[aah]
  split
  ·simp[hdr]
  ·simp[adx r]
theorem agq:∀(l:List HO),(zg l).length=((l.map hdr).map fun z=>z.2.2.2.1).sum
 | []=>rfl
 | x :: r=>by
  have:=agq r
  simp only[zg,List.flatMap_cons,List.length_append,List.map_cons,List.sum_cons] at this ⊢
  rw[this]
  rfl
theorem ag9 {l l':List HO} (h:l.map hdr=l'.map hdr) (t:Nat):zm l t=zm l' t:=by
 unfold zm
 rw[agq,agq,List.map_take,h,←List.map_take]
theorem aha (l r:List HO) {t:Nat} (h:t≤l.length):zm (l++r) t=zm l t:=by
 unfold zm
 rw[List.take_append_of_le_length h]
theorem anv (l r:List HO):zm (l++r) l.length=(zg l).length:=by
 unfold zm
 rw[List.take_left]
theorem agr (l:List HO) {t t':Nat} {x:HO} (h:l[t]?=some x) (hl:t<t'):zm l t+x.fs.length≤zm l t':=by
 have h2:(l.take t')[t]?=some x:=by rw[List.getElem?_take,if_pos hl];exact h
 have:=ach h2
 unfold zm at *
 rwa [List.take_take,Nat.min_eq_left (Nat.le_of_lt hl)] at this
def phi (L:List PL) (v:HV):HV :=
 if v.kind≠4 then v else
 match aab L 0 v.n with
 | none=>v
 | some q=>if aaf L q=0 then v else { v with n:=aaf L q }
def aa0 (L:List PL) (v:HV):Prop:=v.kind=4→∀q,aab L 0 v.n=some q→aaf L q≠0
structure Later (L L':List PL):Prop where
 leads:∀a,aab L' 0 a=aab L 0 a
 objs:∀q,aak L' q=aak L q
 gone:∀q,aaf L q≠0→aaf L' q=aaf L q
theorem Later.refl (L:List PL):Later L L:=⟨fun _=>rfl,fun _=>rfl,fun _ _=>rfl⟩
theorem Later.trans {L L' L'':List PL} (h:Later L L') (k:Later L' L''):Later L L'' :=
 ⟨fun a=>(k.leads a).trans (h.leads a),fun q=>(k.objs q).trans (h.objs q),fun q hq=>(k.gone q (by rw[h.gone q hq];exact hq)).trans (h.gone q hq)⟩
theorem Later.went {L L':List PL} (h:Later L L') {v:HV} (hd:aa0 L v):aa0 L' v:=fun hk q hq=>by
 rw[h.leads] at hq
 rw[h.gone q (hd hk q hq)]
 exact hd hk q hq
theorem Later.phi {L L':List PL} (h:Later L L') {v:HV} (hd:aa0 L v):phi L' v=phi L v:=by
 unfold Go.Proofs.YtpnghfghdbijlaaGreatDoor.phi
 split
 ·rfl
 ·rename_i hk
  rw[h.leads]
  cases hq:aab L 0 v.n with
  | none=>rfl
  | some q =>
   have:=hd (by simpa using hk) q hq
   simp only[h.gone q this]
structure MInv (k0 s:Nat) (M:MS):Prop where
 full:Full M.L
 ft:0<M.ft
 kle:k0≤M.T.length
 sle:s≤(zg M.T).length
 conv:∀q,aaf M.L q≠0→∃t,k0≤t∧t<M.T.length∧aaf M.L q=M.ft+2*t
 inj:∀q q',aaf M.L q≠0→aaf M.L q=aaf M.L q'→q=q'
 orig:∀t y,k0≤t→M.T[t]?=some y→∃q x,aaf M.L q=M.ft+2*t∧aak M.L q=some x∧hdr y=hdr { x with noted:=false }
 flds:∀t q x k v,k0≤t→t<M.T.length→aaf M.L q=M.ft+2*t→aak M.L q=some x→x.fs[k]?=some v →
   (zm M.T t+k<s→(zg M.T)[zm M.T t+k]?=some (phi M.L v)∧aa0 M.L v)∧(s≤zm M.T t+k→(zg M.T)[zm M.T t+k]?=some v)
theorem MInv.move {k0 s:Nat} {M:MS} (h:MInv k0 s M) (v:HV):MInv k0 s (aaj M v).1∧Later M.L (aaj M v).1.L∧(aaj M v).2=phi (aaj M v).1.L v∧aa0 (aaj M v).1.L v∧(∃r,(aaj M v).1.T=M.T++r):=by
 by_cases hk:v.kind≠4
 ·have e:aaj M v=(M,v):=by unfold aaj;rw[if_pos hk]
  rw[e]
  exact⟨h,Later.refl _,by unfold phi;rw[if_pos hk],fun k=>absurd k hk,[],by simp⟩
 ·cases hq:aab M.L 0 v.n with
  | none =>
   have e:aaj M v=(M,v):=by unfold aaj;rw[if_neg hk,hq]
   rw[e]
   exact⟨h,Later.refl _,by unfold phi;rw[if_neg hk];simp only[hq],fun _ q k=>(by rw[show aab (M,v).1.L 0 v.n=none from hq] at k;cases k),[],by simp⟩
  | some q =>
   by_cases hg:aaf M.L q≠0
   ·have e:aaj M v=(M,{ v with n:=aaf M.L q }):=by unfold aaj;rw[if_neg hk,hq];simp only[if_pos hg]
    rw[e]
    exact⟨h,Later.refl _,by unfold phi;rw[if_neg hk];simp only[hq,if_neg hg],fun _ q' k=>by rw[hq] at k;cases k;exact hg,[],by simp⟩
   ·obtain⟨p,x,h1,h2,h3,h4⟩:=ae8 hq
    have e:aaj M v=({ M with T:=M.T++[{ x with noted:=false }],L:=aar M.L q (M.ft+2*M.T.length) },{ v with n:=M.ft+2*M.T.length }):=by
     unfold aaj
     rw[if_neg hk,hq]
     simp only[if_neg hg,h3]
    rw[e]
    have hg0:aaf M.L q=0:=by simpa using hg
    have hft:=h.ft
    have gs:∀q',aaf (aar M.L q (M.ft+2*M.T.length)) q'=if q'=q then M.ft+2*M.T.length else aaf M.L q':=ago h.full h3 _
    have gq:aaf (aar M.L q (M.ft+2*M.T.length)) q=M.ft+2*M.T.length:=by rw[gs,if_pos rfl]
    have lat:Later M.L (aar M.L q (M.ft+2*M.T.length)):=⟨fun a=>ad8 _ _ _ _,fun q'=>adb _ _ _ _,fun q' hq'=>by
     rw[gs,if_neg (fun e=>hq' (by rw[e];exact hg0))]⟩
    have old:∀q' t,t<M.T.length→aaf (aar M.L q (M.ft+2*M.T.length)) q'=M.ft+2*(t:Int)→aaf M.L q'=M.ft+2*t:=fun q' t ht e=>by
     rw[gs] at e
     split at e
     ·omega
     ·exact e
    refine⟨⟨h.full.set _ _,h.ft,?_,?_,?_,?_,?_,?_⟩,lat,?_,?_,_,rfl⟩
    ·show k0≤(M.T++[_]).length
     have:=h.kle
     simp
     omega
    ·show s≤(zg (M.T++[_])).length
     have:=h.sle
     simp[zg] at this ⊢
     omega
    ·intro q' hq'
     by_cases e':q'=q
     ·subst e'
      exact⟨M.T.length,h.kle,by show M.T.length<(M.T++[_]).length;simp,gq⟩
     ·have hq'':aaf M.L q'≠0:=by
       have this:aaf (aar M.L q (M.ft+2*M.T.length)) q'≠0:=hq'
       rw[gs,if_neg e'] at this
       exact this
      obtain⟨t,t1,t2,t3⟩:=h.conv q' hq''
      exact⟨t,t1,by show t<(M.T++[_]).length;simp;omega,(show aaf (aar M.L q _) q'=M.ft+2*t by rw[gs,if_neg e'];exact t3)⟩
    ·intro a b ha hab
     have ha':=ha
     rw[gs] at ha'
     rw[gs,gs] at hab
     by_cases ea:a=q <;> by_cases eb:b=q
     ·rw[ea,eb]
     ·rw[if_pos ea,if_neg eb] at hab
      have hb:aaf M.L b≠0:=by omega
      obtain⟨t,_,t2,t3⟩:=h.conv b hb
      omega
     ·rw[if_neg ea,if_pos eb] at hab
      rw[if_neg ea] at ha'
      obtain⟨t,_,t2,t3⟩:=h.conv a ha'
      omega
     ·rw[if_neg ea] at ha'
      rw[if_neg ea,if_neg eb] at hab
      exact h.inj a b ha' hab
    ·intro t y ht hy
     have hy:(M.T++[{ x with noted:=false }])[t]?=some y:=hy
     show ∃q' x',aaf (aar M.L q (M.ft+2*M.T.length)) q'=M.ft+2*t∧_
     by_cases hlt:t<M.T.length
     ·rw[List.getElem?_append_left hlt] at hy
      obtain⟨q',x',a1,a2,a3⟩:=h.orig t y ht hy
      exact⟨q',x',by rw[lat.gone q' (by omega)];exact a1,(adb _ _ _ _).trans a2,a3⟩
     ·have hte:t=M.T.length:=by
       have:=(List.getElem?_eq_some_iff.1 hy).1
       simp at this
       omega
      subst hte
      rw[List.getElem?_append_right (Nat.le_refl _),Nat.sub_self] at hy
      simp at hy
      subst hy
      exact⟨q,x,gq,(adb _ _ _ _).trans h3,rfl⟩
    ·intro t q' x' k u ht htl hgq hob hu
     replace htl:t<(M.T++[{ x with noted:=false }]).length:=htl
     replace hgq:aaf (aar M.L q (M.ft+2*M.T.length)) q'=M.ft+2*t:=hgq
     have hob2:aak M.L q'=some x':=(adb _ _ _ _).symm.trans hob
     clear hob
     have hob:=hob2
     clear hob2
     show (zm (M.T++[_]) t+k<s→(zg (M.T++[_]))[zm (M.T++[_]) t+k]?=some (phi (aar M.L q _) u)∧aa0 (aar M.L q _) u)∧(s≤zm (M.T++[_]) t+k→(zg (M.T++[_]))[zm (M.T++[_]) t+k]?=some u)
     by_cases hlt:t<M.T.length
     ·have hgq':=old q' t hlt hgq
      obtain⟨y,hy⟩:∃y,M.T[t]?=some y:=⟨_,List.getElem?_eq_getElem hlt⟩
      obtain⟨q2,x2,b1,b2,b3⟩:=h.orig t y ht hy
      have hqq:q2=q':=h.inj q2 q' (by omega) (by omega)
      subst hqq
      rw[hob] at b2
      cases b2
      have hkl:k<y.fs.length:=by
       have h5:=(List.getElem?_eq_some_iff.1 hu).1
       have h6:y.fs.length=x'.fs.length:=by
        have:=congrArg (fun z=>z.2.2.2.1) b3
        exact this
       omega
      have hbl:=ach hy
      have hidx:zm M.T t+k<(zg M.T).length:=by omega
      have hal:(zg (M.T++[{ x with noted:=false }]))[zm M.T t+k]?=(zg M.T)[zm M.T t+k]?:=by
       rw[show zg (M.T++[{ x with noted:=false }])=zg M.T++zg [{ x with noted:=false }] by simp[zg],List.getElem?_append_left hidx]
      rw[aha _ _ (Nat.le_of_lt hlt),hal]
      obtain⟨f1,f2⟩:=h.flds t q2 x' k u ht hlt hgq' hob hu
      exact⟨fun hs=>⟨by rw[lat.phi (f1 hs).2];exact(f1 hs).1,lat.went (f1 hs).2⟩,f2⟩
     ·have hte:t=M.T.length:=by
       simp at htl
       omega
      subst hte
      have hqq:q'=q:=by
       by_cases e':q'=q
       ·exact e'
       ·rw[gs,if_neg e'] at hgq
        obtain⟨t',_,t2,t3⟩:=h.conv q' (by omega)
        omega
      subst hqq
      rw[h3] at hob
      cases hob
      rw[anv]
      have:=h.sle
      refine⟨fun hs=>by omega,fun _=>?_⟩
      rw[show zg (M.T++[{ x with noted:=false }])=zg M.T++x.fs by simp[zg],List.getElem?_append_right (by omega),Nat.add_sub_cancel_left]
      exact hu
    ·show ({ v with n:=M.ft+2*(M.T.length:Int) }:HV)=phi (aar M.L q _) v
     unfold phi
     rw[if_neg hk,ad8,hq]
     simp only[gq]
     rw[if_neg (by omega)]
    ·intro _ q' hq'
     have hq':aab (aar M.L q (M.ft+2*M.T.length)) 0 v.n=some q':=hq'
     rw[ad8,hq] at hq'
     cases hq'
     show aaf (aar M.L q _) q≠0
     rw[gq]
     omega
theorem acm {M:MS} {i:Nat} {v:HV} (h:(zg M.T)[i]?=some v):aby M i={ (aaj M v).1 with T:=aah (aaj M v).1.T i (aaj M v).2 }:=by
 unfold aby
 rw[h]
theorem MInv.field {k0 s:Nat} {M:MS} (h:MInv k0 s M) (hs:s<(zg M.T).length):MInv k0 (s+1) (aby M s)∧Later M.L (aby M s).L∧(aby M s).ft=M.ft∧(∃r,(aby M s).T.map hdr=M.T.map hdr++r)∧(∀i,i<s→(zg (aby M s).T)[i]?=(zg M.T)[i]?):=by
 obtain⟨v,hv⟩:∃v,(zg M.T)[s]?=some v:=⟨_,List.getElem?_eq_getElem hs⟩
 rw[acm hv]
 obtain⟨h1,lat,e2,wn,r,hT⟩:=h.move v
 have hft:=agp M v
 generalize (aaj M v).1=M1 at *
 generalize (aaj M v).2=v' at *
 have hh:(aah M1.T s v').map hdr=M1.T.map hdr:=adx _ _ _
 have hbg:∀t,zm (aah M1.T s v') t=zm M1.T t:=ag9 hh
 have hal:zg (aah M1.T s v')=(zg M1.T).set s v':=abw _ _ _
 have h1s:s<(zg M1.T).length:=by
  rw[hT]
  simp[zg] at hs ⊢
  omega
 have h1v:(zg M1.T)[s]?=some v:=by
  rw[hT,show zg (M.T++r)=zg M.T++zg r by simp[zg],List.getElem?_append_left hs]
  exact hv
 have hlen:(aah M1.T s v').length=M1.T.length:=abr _ _ _
 refine⟨⟨h1.full,h1.ft,?_,?_,?_,h1.inj,?_,?_⟩,lat,hft,⟨r.map hdr,?_⟩,?_⟩
 ·show k0≤(aah M1.T s v').length
  rw[hlen]
  exact h1.kle
 ·show s+1≤(zg (aah M1.T s v')).length
  rw[hal,List.length_set]
  omega
 ·intro q hq
  obtain⟨t,t1,t2,t3⟩:=h1.conv q hq
  exact⟨t,t1,by show t<(aah M1.T s v').length;rw[hlen];exact t2,t3⟩
 ·intro t y ht hy
  have hy:(aah M1.T s v')[t]?=some y:=hy
  have htl:t<M1.T.length:=by
   have:=(List.getElem?_eq_some_iff.1 hy).1
   omega
  obtain⟨y',hy'⟩:∃y',M1.T[t]?=some y':=⟨_,List.getElem?_eq_getElem htl⟩
  have e:hdr y=hdr y':=by
   have:=congrArg (fun l=>l[t]?) hh
   simp only[List.getElem?_map,hy,hy',Option.map_some,Option.some.injEq] at this
   exact this
  obtain⟨q,x,a1,a2,a3⟩:=h1.orig t y' ht hy'
  exact⟨q,x,a1,a2,e.trans a3⟩
 ·intro t q x k u ht htl hg ho hu
  have htl:t<M1.T.length:=by
   have this:t<(aah M1.T s v').length:=htl
   omega
  obtain⟨f1,f2⟩:=h1.flds t q x k u ht htl hg ho hu
  show (zm (aah M1.T s v') t+k<s+1→(zg (aah M1.T s v'))[zm (aah M1.T s v') t+k]?=some (phi M1.L u)∧aa0 M1.L u)∧(s+1≤zm (aah M1.T s v') t+k→(zg (aah M1.T s v'))[zm (aah M1.T s v') t+k]?=some u)
  rw[hbg,hal,List.getElem?_set]
  refine⟨fun hlt=>?_,fun hle=>?_⟩
  ·by_cases e:s=zm M1.T t+k
   ·have huv:u=v:=by
     have:=f2 (by omega)
     rw[←e,h1v] at this
     exact(Option.some.inj this).symm
    subst huv
    rw[if_pos e,if_pos (by omega),e2]
    exact⟨rfl,wn⟩
   ·rw[if_neg e]
    exact f1 (by omega)
  ·rw[if_neg (by omega)]
   exact f2 (by omega)
 ·show (aah M1.T s v').map hdr=_
  rw[hh,hT,List.map_append]
 ·intro i hi
  show (zg (aah M1.T s v'))[i]?=_
  rw[hal,List.getElem?_set,if_neg (by omega),hT,show zg (M.T++r)=zg M.T++zg r by simp[zg],List.getElem?_append_left (by omega)]
theorem al2 {a:Int} (ha:a≠0) (f:HO→Nat):∀(o:List HO) (w:List Int) (i:Nat) (x:HO),o[i]?=some x→w[i]?=some 0 →
  ((o.zip (w.set i a)).map fun z=>if z.2=0 then f z.1 else 0).sum+f x=((o.zip w).map fun z=>if z.2=0 then f z.1 else 0).sum
 | y :: o,b :: w,0,x,h1,h2=>by
  simp at h1 h2
  subst h1 h2
  simp[ha]
  omega
 | y :: o,b :: w,i+1,x,h1,h2=>by
  have:=al2 ha f o w i x (by simpa using h1) (by simpa using h2)
  simp only[List.set_cons_succ,List.zip_cons_cons,List.map_cons,List.sum_cons]
  omega
 | [],_,_,_,h1,_=>by simp at h1
 | _ :: _,[],_,_,_,h2=>by simp at h2
theorem aft {a:Int} (ha:a≠0) (f:HO→Nat):∀(L:List PL) (j i:Nat) (x:HO),Full L→aak L (j,i)=some x→aaf L (j,i)=0→adt f (aar L (j,i) a)+f x=adt f L
 | [],j,i,x,_,h,_=>by simp[aak] at h
 | p :: r,0,i,x,hf,h,hg=>by
  have hl:=hf p (List.mem_cons_self ..)
  have h1:p.objs[i]?=some x:=by simpa [aak] using h
  have hi:=(List.getElem?_eq_some_iff.1 h1).1
  have h2:p.went[i]?=some 0:=by
   have h3:(p.went[i]?).getD 0=0:=by simpa [aaf] using hg
   rw[List.getElem?_eq_getElem (by omega)] at h3 ⊢
   simpa using h3
  have:=al2 ha f p.objs p.went i x h1 h2
  unfold adt aar
  simp only[List.modify_zero_cons,List.map_cons,List.sum_cons]
  omega
 | p :: r,j+1,i,x,hf,h,hg=>by
  have:=aft ha f r j i x (fun p hp=>hf p (List.mem_cons_of_mem _ hp)) (by simpa [aak] using h) (by simpa [aaf] using hg)
  unfold adt aar at *
  simp only[List.modify_succ_cons,List.map_cons,List.sum_cons] at *
  omega
theorem aic {M:MS} (hf:Full M.L) (hft:0<M.ft) (v:HV):pot (aaj M v).1=pot M:=by
 unfold aaj
 split
 ·rfl
 ·split
  ·rfl
  ·rename_i q hq
   split
   ·rfl
   ·rename_i hg
    split
    ·rfl
    ·rename_i x hx
     have hg0:aaf M.L q=0:=by simpa using hg
     have:=aft (a:=M.ft+2*M.T.length) (by omega) (fun x=>x.fs.length) M.L q.1 q.2 x hf hx hg0
     unfold pot
     show (zg (M.T++[_])).length+ad9 (aar M.L q _)=_
     rw[show zg (M.T++[{ x with noted:=false }])=zg M.T++x.fs by simp[zg],List.length_append]
     have:ad9 (aar M.L q (M.ft+2*M.T.length))+x.fs.length=ad9 M.L:=this
     omega
theorem afu {k0 s:Nat} {M:MS} (h:MInv k0 s M) (i:Nat):pot (aby M i)=pot M:=by
 cases hv:(zg M.T)[i]? with
 | none=>unfold aby;rw[hv]
 | some v =>
  rw[acm hv,←aic h.full h.ft v]
  unfold pot
  show (zg (aah _ _ _)).length+_=_
  rw[abw,List.length_set]
theorem MInv.rest {k0:Nat}:∀(f:Nat) {s:Nat} {M:MS},MInv k0 s M→pot M≤s+f→MInv k0 (zg (aai f M s).T).length (aai f M s)∧Later M.L (aai f M s).L∧(aai f M s).ft=M.ft∧(∃r,(aai f M s).T.map hdr=M.T.map hdr++r)∧(∀i,i<s→(zg (aai f M s).T)[i]?=(zg M.T)[i]?)
 | 0,s,M,h,hp=>by
  have h1:s=(zg M.T).length:=by
   have:=h.sle
   unfold pot at hp
   omega
  rw[aai]
  exact⟨h1 ▸ h,Later.refl _,rfl,⟨[],by simp⟩,fun _ _=>rfl⟩
 | f+1,s,M,h,hp=>by
  rw[aai]
  split
  ·rename_i hlt
   obtain⟨h1,l1,e1,⟨r1,q1⟩,g1⟩:=h.field hlt
   obtain⟨h2,l2,e2,⟨r2,q2⟩,g2⟩:=MInv.rest f h1 (by rw[afu h];omega)
   exact⟨h2,l1.trans l2,e2.trans e1,⟨r1++r2,by rw[q2,q1,List.append_assoc]⟩,fun i hi=>(g2 i (by omega)).trans (g1 i hi)⟩
  ·rename_i hge
   have h1:s=(zg M.T).length:=by
    have:=h.sle
    omega
   exact⟨h1 ▸ h,Later.refl _,rfl,⟨[],by simp⟩,fun _ _=>rfl⟩
theorem MInv.roots {k0 s:Nat}:∀(l:List HV) {M:MS},MInv k0 s M→MInv k0 s (zv M l)∧Later M.L (zv M l).L∧(zv M l).ft=M.ft∧(∃r,(zv M l).T=M.T++r)∧pot (zv M l)=pot M∧∀v∈l,aa0 (zv M l).L v
 | [],M,h=>⟨h,Later.refl _,rfl,⟨[],by simp[zv]⟩,rfl,fun v hv=>by cases hv⟩
 | v :: l,M,h=>by
  obtain⟨h1,l1,_,w1,r1,q1⟩:=h.move v
  obtain⟨h2,l2,e2,⟨r2,q2⟩,p2,w2⟩:=MInv.roots l h1
  refine⟨h2,l1.trans l2,e2.trans (agp M v),⟨r1++r2,?_⟩,p2.trans (aic h.full h.ft v),fun u hu=>?_⟩
  ·show (zv (aaj M v).1 l).T=_
   rw[q2,q1,List.append_assoc]
  ·rcases List.mem_cons.1 hu with rfl | hu
   ·exact l2.went w1
   ·exact w2 u hu
theorem aid {M:MS} (hf:Full M.L) (hft:0<M.ft) (v:HV):cnt (aaj M v).1=cnt M:=by
 unfold aaj
 split
 ·rfl
 ·split
  ·rfl
  ·rename_i q hq
   split
   ·rfl
   ·rename_i hg
    split
    ·rfl
    ·rename_i x hx
     have hg0:aaf M.L q=0:=by simpa using hg
     have:=aft (a:=M.ft+2*M.T.length) (by omega) (fun _=>1) M.L q.1 q.2 x hf hx hg0
     unfold cnt
     show (M.T++[_]).length+adt (fun _=>1) (aar M.L q _)=_
     have:adt (fun _=>1) (aar M.L q (M.ft+2*M.T.length))+1=adt (fun _=>1) M.L:=this
     simp
     omega
theorem apg {M:MS} (hf:Full M.L) {q:Nat×Nat} {x:HO} (hx:aak M.L q=some x) (hg:aaf M.L q=0):(zg M.T).length+x.fs.length≤pot M:=by
 have:adt (fun x=>x.fs.length) (aar M.L q 1)+x.fs.length=adt (fun x=>x.fs.length) M.L:=aft (a:=1) (by decide) (fun x=>x.fs.length) M.L q.1 q.2 x hf hx hg
 unfold pot ad9
 omega
theorem adl (M:MS):M.T.length≤cnt M:=by
 unfold cnt
 omega
structure Cap (M:MS):Prop where
 ft:0<M.ft
 cn:cnt M+1≤5000000
 top:M.ft+2*(cnt M:Int)+2≤4611686018427387904
 po:pot M≤10000000
 full:Full M.L
 nT:∀v∈zg M.T,I64 v.n
 nL:∀q x,aak M.L q=some x→∀v∈x.fs,I64 v.n
theorem I64.of_small {n:Int} (h0:0≤n) (h1:n≤4611686018427387904):I64 n:=⟨by omega,by omega⟩
theorem Cap.move {M:MS} (h:Cap M) {k0 s:Nat} (hi:MInv k0 s M) {v:HV} (hv:I64 v.n):Cap (aaj M v).1∧I64 (aaj M v).2.n:=by
 have hc:=aid h.full h.ft v
 have hp:=aic h.full h.ft v
 have hft:=agp M v
 have h1:=h.ft
 have h2:=h.top
 have hcr:=adl M
 obtain⟨hi',lat,e2,wn,r,hT⟩:=hi.move v
 have hobj:∀q x,aak (aaj M v).1.L q=some x→∀v∈x.fs,I64 v.n:=fun q x hq=>h.nL q x (by rw[←lat.objs];exact hq)
 refine⟨⟨by rw[hft];exact h.ft,by rw[hc];exact h.cn,by rw[hft,hc];exact h.top,by rw[hp];exact h.po,hi'.full,?_,hobj⟩,?_⟩
 ·have key:(aaj M v).1.T=M.T∨∃q x,aak M.L q=some x∧(aaj M v).1.T=M.T++[{ x with noted:=false }]:=by
   unfold aaj
   split
   ·exact Or.inl rfl
   ·split
    ·exact Or.inl rfl
    ·rename_i q hq
     split
     ·exact Or.inl rfl
     ·split
      ·exact Or.inl rfl
      ·rename_i x hx
       exact Or.inr ⟨q,x,hx,rfl⟩
  rcases key with e | ⟨q,x,hx,e⟩
  ·rw[e];exact h.nT
  ·rw[e]
   intro u hu
   rw[show zg (M.T++[{ x with noted:=false }])=zg M.T++x.fs by simp[zg]] at hu
   rcases List.mem_append.1 hu with hu | hu
   ·exact h.nT u hu
   ·exact h.nL q x hx u hu
 ·rw[e2]
  unfold phi
  split
  ·exact hv
  ·split
   ·exact hv
   ·rename_i q hq
    split
    ·exact hv
    ·rename_i hg
     obtain⟨t,t1,t2,t3⟩:=hi'.conv q hg
     have hcr':=adl (aaj M v).1
     show I64 (aaf (aaj M v).1.L q)
     rw[t3,hft]
     exact I64.of_small (by omega) (by omega)
theorem Cap.field {M:MS} (h:Cap M) {k0 s:Nat} (hi:MInv k0 s M) (i:Nat):Cap (aby M i):=by
 cases hv:(zg M.T)[i]? with
 | none=>unfold aby;rw[hv];exact h
 | some v =>
  obtain⟨c1,c2⟩:=h.move hi (h.nT v (List.mem_of_getElem? hv))
  rw[acm hv]
  have hl:(aah (aaj M v).1.T i (aaj M v).2).length=(aaj M v).1.T.length:=abr _ _ _
  refine⟨c1.ft,?_,?_,?_,c1.full,?_,c1.nL⟩
  ·have:=c1.cn
   unfold cnt at *
   show (aah _ _ _).length+_+1≤_
   rw[hl]
   exact this
  ·have:=c1.top
   unfold cnt at *
   show _+2*(((aah _ _ _).length+_:Nat):Int)+2≤_
   rw[hl]
   exact this
  ·have:=c1.po
   unfold pot at *
   show (zg (aah _ _ _)).length+_≤_
   rw[abw,List.length_set]
   exact this
  ·intro u hu
   have hu:u∈zg (aah (aaj M v).1.T i (aaj M v).2):=hu
   rw[abw] at hu
   rcases List.mem_or_eq_of_mem_set hu with hu | rfl
   ·exact c1.nT u hu
   ·exact c2
theorem aaa {w:World} {B:Nat} {e:TypeId} {k:Nat} {v:Value} {n:Nat} {xs:List Value} (h:w.ownsRow B e k v n xs):∃g cap,v=.slice g n cap:=by
 rcases h.2 with ⟨rfl,rfl⟩ | ⟨g,cap,cur,rfl,_⟩
 ·exact⟨none,0,rfl⟩
 ·exact⟨_,cap,rfl⟩
theorem aa8 {w w':World} {B:Nat} {e:TypeId} {k:Nat} {v:Value} {n:Nat} {xs:List Value} (h:w.ownsRow B e k v n xs) (hb:Below w.heap.size w w'):w'.ownsRow B e k v n xs:=by
 refine⟨h.1,?_⟩
 rcases h.2 with q | ⟨g,cap,cur,h1,h2,h3,h4⟩
 ·exact Or.inl q
 ·exact Or.inr ⟨g,cap,cur,h1,h2,(hb.block g (hlt h3)).trans h3,h4⟩
structure PHp where
 fy:Int
 fo:Int
 ry:Int
 ro:Int
 Y:List HO
 O:List HO
 noted:List Int
 last:Int
 minors:Int
 majors:Int
def zx (P:PHp) (vyo vyf voo vof vn:Value) (mb:Nat):Array Value:=#[.int .i64 P.fy,vyo,vyf,.int .i64 P.fo,voo,vof,.int .i64 P.ry,.int .i64 P.ro,vn,.map (some mb),.int .i64 P.last,.int .i64 P.minors,.int .i64 P.majors]
structure HpAt (B:Nat) (w:World) (h mb:Nat) (P:PHp) (vyo vyf voo vof vn:Value):Prop where
 blk:w.heap[h]?=some (.cells (zx P vyo vyf voo vof vn mb) 51 (0,0))
 yo:w.ownsRow B 61 6 vyo P.Y.length (aa7 0 P.Y)
 yf:w.ownsRow B 69 3 vyf (zg P.Y).length (acg P.Y)
 oo:w.ownsRow B 61 6 voo P.O.length (aa7 0 P.O)
 of':w.ownsRow B 69 3 vof (zg P.O).length (acg P.O)
 nt:w.ownsRow B 3 1 vn P.noted.length (P.noted.map iv)
theorem HpAt.keep {B:Nat} {w w':World} {h mb:Nat} {P:PHp} {vyo vyf voo vof vn:Value} (k:HpAt B w h mb P vyo vyf voo vof vn) (hb:Below w.heap.size w w'):HpAt B w' h mb P vyo vyf voo vof vn :=
 ⟨(hb.block h (hlt k.blk)).trans k.blk,aa8 k.yo hb,aa8 k.yf hb,aa8 k.oo hb,aa8 k.of' hb,aa8 k.nt hb⟩
structure Small (P:PHp):Prop where
 y0:0≤P.fy
 o0:0≤P.fo
 y1:P.fy+2*P.Y.length≤4611686018427387904
 o1:P.fo+2*P.O.length≤4611686018427387904
 yo:P.fy % 2=1
 oe:P.fo % 2=0
def Found (P:PHp) (a:Int):Option (Bool×Nat)→Prop
 | some (true,i)=>i<P.Y.length∧a=P.fy+2*i
 | some (false,i)=>i<P.O.length∧a=P.fo+2*i
 | none=>(∀i:Nat,i<P.Y.length→a≠P.fy+2*i)∧∀i:Nat,i<P.O.length→a≠P.fo+2*i
theorem Found.young {P:PHp} {a:Int} (i:Nat) (hi:i<P.Y.length) (e:a=P.fy+2*i):Found P a (some (true,i)):=⟨hi,e⟩
theorem Found.old {P:PHp} {a:Int} (i:Nat) (hi:i<P.O.length) (e:a=P.fo+2*i):Found P a (some (false,i)):=⟨hi,e⟩
theorem Found.none {P:PHp} {a:Int} (hy:∀i:Nat,i<P.Y.length→a≠P.fy+2*i) (ho:∀i:Nat,i<P.O.length→a≠P.fo+2*i):Found P a Option.none:=⟨hy,ho⟩
theorem Found.parts {P:PHp} {a:Int} {motive:(r:Option (Bool×Nat))→Found P a r→Prop} (young:∀(i:Nat) (hi:i<P.Y.length) (e:a=P.fy+2*i),motive (some (true,i)) (Found.young i hi e)) (old:∀(i:Nat) (hi:i<P.O.length) (e:a=P.fo+2*i),motive (some (false,i)) (Found.old i hi e)) (none:∀(hy:∀i:Nat,i<P.Y.length→a≠P.fy+2*i) (ho:∀i:Nat,i<P.O.length→a≠P.fo+2*i),motive Option.none (Found.none hy ho)):(r:Option (Bool×Nat))→(h:Found P a r)→motive r h
 | some (true,i),h=>young i h.1 h.2
 | some (false,i),h=>old i h.1 h.2
 | .none,h=>none h.1 h.2
def adm (h:Nat):Option (Bool×Nat)→Value
 | some (true,i)=>.tuple #[.pointer (some ⟨h,0,none⟩),.int .i64 i]
 | some (false,i)=>.tuple #[.pointer (some ⟨h,3,none⟩),.int .i64 i]
 | none=>.tuple #[.pointer none,.int .i64 0]
def aph (P:PHp) (h:Nat) (a:Int) (w:World) (e:Ending) (w':World):Prop:=∃r,Found P a r∧e=.returned (adm h r)∧Below w.heap.size w w'
theorem aeg {B:Nat} {w:World} {h mb:Nat} {P:PHp} {vyo vyf voo vof vn:Value} (k:HpAt B w h mb P vyo vyf voo vof vn) (hs:Small P) {a:Int} (ha:I64 a) :
  Calls prog 43 #[.pointer (some ⟨h,0,none⟩),.int .i64 a] w fun e w'=>aph P h a w e w':=by
 have K:=zc k
 have HS:=zc hs
 have HA:=zc ha
 have i0:=ix0
 have i1:=ix1
 obtain⟨gy,cy,rfl⟩:=aaa k.yo
 obtain⟨go,co,rfl⟩:=aaa k.oo
 clear k hs ha
 go_enter func43,ntmps43
 go_wp2_with fail
 refine wp_region_held_drew (S:=(fun _=>True)) (by kernel_rfl) trivial (fun hHeld=>?_)
 refine wpAnyH_take (i:=0) (oi:={ dst:=some 12,op:=_,type:=_,pos:=_,after:=_,guard:=_ }) (v:=?_) rfl (by kernel_rfl) (by kernel_rfl) (by kernel_rfl) (fun _ _ _ h=>h) (Or.inl ⟨by rfl,?_⟩) (by assumption) ?_
 case refine_2 =>
  intro w hSw
  try dsimp only at hSw
  go_simp
  try with_reducible rfl
 simp only[Act.put,sA,sB,sC]
 refine wpAnyH_take (i:=1) (oi:={ dst:=some 13,op:=_,type:=_,pos:=_,after:=_,guard:=_ }) (v:=?_) rfl (by kernel_rfl) (by kernel_rfl) (by kernel_rfl) (fun _ _ _ h=>h) (Or.inl ⟨by rfl,?_⟩) (by assumption) ?_
 case refine_2 =>
  intro w hSw
  try dsimp only at hSw
  go_simp
  try with_reducible rfl
 simp only[Act.put,sA,sB,sC]
 refine wpAnyH_take (i:=2) (oi:={ dst:=some 14,op:=_,type:=_,pos:=_,after:=_,guard:=_ }) (v:=?_) rfl (by kernel_rfl) (by kernel_rfl) (by kernel_rfl) (fun _ _ _ h=>h) (Or.inl ⟨by rfl,?_⟩) (by assumption) ?_
 case refine_2 =>
  intro w hSw
  try dsimp only at hSw
  go_simp
  try with_reducible rfl
 simp only[Act.put,sA,sB,sC]
 refine wpAnyH_take (i:=3) (oi:={ dst:=some 15,op:=_,type:=_,pos:=_,after:=_,guard:=_ }) (v:=?_) rfl (by kernel_rfl) (by kernel_rfl) (by kernel_rfl) (fun _ _ _ h=>h) (Or.inl ⟨by rfl,?_⟩) (by assumption) ?_
 case refine_2 =>
  intro w hSw
  try dsimp only at hSw
  go_simp
  try with_reducible rfl
 simp only[Act.put,sA,sB,sC]
 refine wpAnyH_take (i:=4) (oi:={ dst:=some 16,op:=_,type:=_,pos:=_,after:=_,guard:=_ }) (v:=?_) rfl (by kernel_rfl) (by kernel_rfl) (by kernel_rfl) (fun _ _ _ h=>h) (Or.inl ⟨by rfl,?_⟩) (by assumption) ?_
 case refine_2 =>
  intro w hSw
  try dsimp only at hSw
  go_simp
  try with_reducible rfl
 simp only[Act.put,sA,sB,sC]
 refine wpAnyH_take (i:=5) (oi:={ dst:=some 17,op:=_,type:=_,pos:=_,after:=_,guard:=_ }) (v:=?_) rfl (by kernel_rfl) (by kernel_rfl) (by kernel_rfl) (fun _ _ _ h=>h) (Or.inl ⟨by rfl,?_⟩) (by assumption) ?_
 case refine_2 =>
  intro w hSw
  try dsimp only at hSw
  go_simp
  try with_reducible rfl
 simp only[Act.put,sA,sB,sC]
 refine wpAnyH_take (i:=6) (oi:={ dst:=some 18,op:=_,type:=_,pos:=_,after:=_,guard:=_ }) (v:=?_) rfl (by kernel_rfl) (by kernel_rfl) (by kernel_rfl) (fun _ _ _ h=>h) (Or.inl ⟨by rfl,?_⟩) (by assumption) ?_
 case refine_2 =>
  intro w hSw
  try dsimp only at hSw
  go_simp
  try with_reducible rfl
 simp only[Act.put,sA,sB,sC]
 refine wpAnyH_take (i:=7) (oi:={ dst:=some 19,op:=_,type:=_,pos:=_,after:=_,guard:=_ }) (v:=?_) rfl (by kernel_rfl) (by kernel_rfl) (by kernel_rfl) (fun _ _ _ h=>h) (Or.inl ⟨by rfl,?_⟩) (by assumption) ?_
 case refine_2 =>
  intro w hSw
  try dsimp only at hSw
  go_simp
  try with_reducible rfl
 simp only[Act.put,sA,sB,sC]
 refine wpAnyH_done (by kernel_rfl) ?_ _
 have HB:=zc (Below.drew (Below.refl w.heap.size w))
 go_wp2_with fail
 refine wp_loop_rounds 3 ?_
 rw[rounds_succ]
 go_wp2_with fail
 refine(ae7 (zd ((za K).keep (za HB)).blk 0) (zd ((za K).keep (za HB)).blk 1) (za HA) (za HS).y0 (za HS).y1).mono ?_
 rintro e w1 ⟨q,ok,rfl,hb1,ht,hf⟩
 have HB1:=zc ((za HB).trans (hb1.mono (za HB).size))
 clear hb1
 cases ok with
 | true =>
  obtain⟨i,hi,rfl,hai⟩:=ht rfl
  have HI:=zc (show Found P a (some (true,i)) from .young i hi hai)
  clear ht hf hi hai
  go_wp2_with fail
  go_ret2
  exact⟨_,za HI,rfl,za HB1⟩
 | false =>
  have HNY:=zc (hf rfl)
  clear ht hf
  go_wp2_with fail
  rw[rounds_succ]
  go_wp2_with fail
  refine(ae7 (zd ((za K).keep (za HB1)).blk 3) (zd ((za K).keep (za HB1)).blk 4) (za HA) (za HS).o0 (za HS).o1).mono ?_
  rintro e w2 ⟨q2,ok,rfl,hb2,ht,hf⟩
  have HB2:=zc ((za HB1).trans (hb2.mono (za HB1).size))
  clear hb2
  cases ok with
  | true =>
   obtain⟨i,hi,rfl,hai⟩:=ht rfl
   have HI:=zc (show Found P a (some (false,i)) from .old i hi hai)
   clear ht hf hi hai
   go_wp2_with fail
   go_ret2
   exact⟨_,za HI,rfl,za HB2⟩
  | false =>
   have HI:=zc (show Found P a none from .none (za HNY) (hf rfl))
   clear ht hf
   go_wp2_with fail
   rw[rounds_succ]
   go_wp2_with fail
   go_ret2
   exact⟨_,za HI,rfl,za HB2⟩
end Go.Proofs.YtpnghfghdbijlaaGreatDoor
