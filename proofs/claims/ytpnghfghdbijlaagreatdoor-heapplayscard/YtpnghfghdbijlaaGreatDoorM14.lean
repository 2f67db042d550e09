/- A part. -/
import Derived.Test.YtpnghfghdbijlaaGreatDoorM13
open Go.Proofs.Tryz
namespace Go.Proofs.YtpnghfghdbijlaaGreatDoor
open Go.RowKit
set_option linter.unusedVariables false
set_option linter.unusedSimpArgs false
set_option maxRecDepth 100000
set_option maxHeartbeats 40000000
section
open Go.RowKit Go.Maps
def idC (T:List Th):Nat:=(T.filter fun t=>decide (0<t.id)).length
theorem agz (T:List Th) (t:Th):idC (T++[t])=idC T+if 0<t.id then 1 else 0:=by
 unfold idC
 rw[List.filter_append,List.length_append]
 congr 1
 by_cases h:0<t.id <;> simp[h]
structure NtOk (P:PHp):Prop where
 nr:∀z∈P.noted,∃j:Nat,z=j∧j<P.O.length
 nd:P.noted.Nodup
 mj:∀(j:Nat) x,P.O[j]?=some x→(x.noted=true↔(j:Int)∈P.noted)
 yo:∀(j:Nat) x,P.O[j]?=some x→∀v∈x.fs,v.kind=4→(∃i:Nat,i<P.Y.length∧v.n=P.fy+2*i)→x.noted=true
structure Zi (P:PHp) (D:DataW Unit) (T:List Th) (wh:List HV) (here known:List Bool) (ad:Nat→Int):Prop where
 rep:Rep P T here ad
 lw:wh.length=T.length
 lk:known.length=T.length
 kn:∀i:Nat,known[i]?=some true→here[i]?=some true∧wh[i]?=some (toA (ad i))
 ids:∀(i:Nat) (t:Th),T[i]?=some t→t.id=0∨t.id=1+(idC (T.take i):Int)
 last:P.last=idC T
 mp:Maps.IsMap D
 has:∀a,Maps.has D (.int .i64 a)=true↔∃(i:Nat) (t:Th),T[i]?=some t∧here[i]?=some true∧t.id=a∧0<a
 at':∀(i:Nat) (t:Th),T[i]?=some t→here[i]?=some true→0<t.id→D.atKey (.int .i64 t.id) (.lit (.int .i64 0))=.lit (.int .i64 (ad i))
 nt:NtOk P
 kd:∀t∈T,1≤t.kind∧t.kind≤4
 cs:∀t∈T,∀c∈t.is,-1≤c∧c≤T.length
 sz:∀t∈T,t.is.length≤1000
theorem ae5 {a b:Int} (h:a≠b):Lit.int .i64 a≠Lit.int .i64 b:=fun e=>h (by injection e)
theorem ag0 {T:List Th} {i j:Nat} {t:Th} (ht:T[i]?=some t) (hp:0<t.id) (h:i<j):idC (T.take i)+1≤idC (T.take j):=by
 have hl:=(List.getElem?_eq_some_iff.1 ht).1
 have e:T.take (i+1)=T.take i++[t]:=by rw[List.take_add_one,ht];rfl
 have h1:idC (T.take (i+1))=idC (T.take i)+1:=by rw[e,agz,if_pos hp]
 have h2:idC (T.take (i+1))≤idC (T.take j):=by
  unfold idC
  refine(List.Sublist.filter _ ?_).length_le
  rw[show T.take (i+1)=(T.take j).take (i+1) by rw[List.take_take,Nat.min_eq_left (by omega)]]
  exact List.take_sublist _ _
 omega
theorem ahy {T:List Th} (h:∀(i:Nat) (t:Th),T[i]?=some t→t.id=0∨t.id=1+(idC (T.take i):Int)) {i j:Nat} {t u:Th} (hi:T[i]?=some t) (hj:T[j]?=some u) (e:t.id=u.id) (hp:0<t.id):i=j:=by
 have h1:=(h i t hi).resolve_left (by omega)
 have h2:=(h j u hj).resolve_left (by omega)
 rcases Nat.lt_trichotomy i j with q | q | q
 ·have:=ag0 hi hp q
  omega
 ·exact q
 ·have:=ag0 hj (by omega) q
  omega
theorem ahl {T:List Th} (h:∀(i:Nat) (t:Th),T[i]?=some t→t.id=0∨t.id=1+(idC (T.take i):Int)) {i:Nat} {t:Th} (hi:T[i]?=some t):0≤t.id∧t.id≤idC T:=by
 rcases h i t hi with q | q
 ·omega
 ·have:=ag0 (j:=T.length) hi (by omega) (List.getElem?_eq_some_iff.1 hi).1
  rw[List.take_length] at this
  omega
def adN (ad:Nat→Int) (n:Nat) (a:Int) (i:Nat):Int:=if i=n then a else ad i
theorem aem (ad:Nat→Int) (n:Nat) (a:Int):adN ad n a n=a:=if_pos rfl
theorem adh (ad:Nat→Int) {n i:Nat} (a:Int) (h:i<n):adN ad n a i=ad i:=if_neg (by omega)
theorem ady {α:Type} {l:List α} {i:Nat} {a b:α} (h:l[i]?=some b):(l++[a])[i]?=some b:=by
 rw[List.getElem?_append_left (List.getElem?_eq_some_iff.1 h).1]
 exact h
theorem ab7 {α:Type} {l:List α} {i:Nat} {a b:α} (h:(l++[a])[i]?=some b):(l[i]?=some b∧i<l.length)∨(i=l.length∧b=a):=by
 by_cases hi:i<l.length
 ·rw[List.getElem?_append_left hi] at h
  exact Or.inl ⟨h,hi⟩
 ·rw[List.getElem?_append_right (by omega)] at h
  by_cases e:i-l.length=0
  ·rw[e] at h
   cases h
   exact Or.inr ⟨by omega,rfl⟩
  ·rw[List.getElem?_eq_none (by simp;omega)] at h
   cases h
theorem am7 {P P':PHp} (hs:Small P) {x:HO} (hY:P'.Y=P.Y++[x]) (hO:P'.O=P.O) (hfy:P'.fy=P.fy) (hfo:P'.fo=P.fo) :
  aao P' (P.fy+2*P.Y.length)=some x∧(∀b y,aao P b=some y→aao P' b=some y∧b≠P.fy+2*P.Y.length)∧∀b y,aao P' b=some y→(b=P.fy+2*P.Y.length∧y=x)∨aao P b=some y:=by
 have h1:=hs.yo
 have h2:=hs.oe
 have old:∀{j:Nat} {y:HO},P.O[j]?=some y→aao P' (P.fo+2*j)=some y:=fun {j y} hj=>by
  have hjl:=(List.getElem?_eq_some_iff.1 hj).1
  unfold aao
  rw[hfy,hfo,hO,ab6 (fun i hi=>by omega)]
  simp only
  rw[aa3.2 ⟨hjl,rfl⟩]
  exact hj
 refine⟨?_,fun b y hb=>?_,fun b y hb=>?_⟩
 ·have:=abx (P:=P') (j:=P.Y.length) (x:=x) (by rw[hY];simp)
  rw[hfy] at this
  exact this
 ·rcases acj hb with ⟨j,hj,rfl⟩ | ⟨j,hj,rfl⟩
  ·have hjl:=(List.getElem?_eq_some_iff.1 hj).1
   have:=abx (P:=P') (j:=j) (x:=y) (by rw[hY];exact ady hj)
   rw[hfy] at this
   exact⟨this,by omega⟩
  ·exact⟨old hj,by omega⟩
 ·rcases acj hb with ⟨j,hj,rfl⟩ | ⟨j,hj,rfl⟩
  ·rw[hY] at hj
   rw[hfy]
   rcases ab7 hj with ⟨q,_⟩ | ⟨rfl,rfl⟩
   ·exact Or.inr (abx q)
   ·exact Or.inl ⟨rfl,rfl⟩
  ·rw[hO] at hj
   rw[hfo]
   exact Or.inr (abm hs hj)
theorem Fld.snoc {here:List Bool} {ad:Nat→Int} {c:Int} {v:HV} (h:Fld here ad c v) (b:Bool) (a:Int):Fld (here++[b]) (adN ad here.length a) c v:=by
 refine⟨h.1,h.2.1,fun hc=>?_⟩
 obtain⟨h1,h2⟩:=h.2.2 hc
 exact⟨by rw[adh _ _ (List.getElem?_eq_some_iff.1 h2).1];exact h1,ady h2⟩
theorem ap4 {here:List Bool} {ad:Nat→Int} {sz k:Nat} {c:Int} (h:(List.replicate sz (0:Int))[k]?=some c):∃v,(aay sz)[k]?=some v∧Fld here ad c v:=by
 have hk:k<sz:=by
  have:=(List.getElem?_eq_some_iff.1 h).1
  simpa using this
 rw[List.getElem?_replicate,if_pos hk] at h
 cases h
 refine⟨acv,by unfold aay;rw[List.getElem?_replicate,if_pos hk],fun _=>rfl,fun q=>absurd q (by omega),fun q=>absurd q (by omega)⟩
theorem Rep.alloc {P P':PHp} {T:List Th} {here:List Bool} {ad:Nat→Int} (h:Rep P T here ad) (hs:Small P) {kd tag id:Int} {sz:Nat} (hY:P'.Y=P.Y++[⟨kd,tag,id,aay sz,false⟩]) (hO:P'.O=P.O) (hfy:P'.fy=P.fy) (hfo:P'.fo=P.fo) :
  Rep P' (T++[⟨kd,tag,id,false,List.replicate sz 0⟩]) (here++[true]) (adN ad T.length (P.fy+2*P.Y.length)):=by
 obtain⟨o1,o2,o3⟩:=am7 hs hY hO hfy hfo
 have hl:=h.len
 have h1:=hs.yo
 have h2:=hs.oe
 refine⟨by simp[h.len],fun i t hi hh=>?_,fun i j hi hj e=>?_,fun a x hx=>?_,fun i t hi hh=>?_⟩
 ·rcases ab7 hi with ⟨hi,hil⟩ | ⟨rfl,rfl⟩
  ·rcases ab7 hh with ⟨hh,_⟩ | ⟨q,_⟩
   ·obtain⟨x,hx,k⟩:=h.obj i t hi hh
    rw[adh _ _ hil]
    refine⟨x,(o2 _ _ hx).1,k.kind,k.tag,k.id,k.len,fun n c hc=>?_⟩
    obtain⟨v,hv,hf⟩:=k.fld n c hc
    rw[←hl]
    exact⟨v,hv,hf.snoc _ _⟩
   ·omega
  ·rw[aem]
   refine⟨_,o1,rfl,rfl,rfl,by simp[aay],fun n c hc=>?_⟩
   exact ap4 hc
 ·rcases ab7 hi with ⟨hi,hil⟩ | ⟨rfl,_⟩ <;> rcases ab7 hj with ⟨hj,hjl⟩ | ⟨rfl,_⟩
  ·rw[adh _ _ (by omega),adh _ _ (by omega)] at e
   exact h.inj i j hi hj e
  ·rw[adh _ _ (by omega),hl,aem] at e
   obtain⟨t,ht⟩:=h.th hi
   obtain⟨x,hx,_⟩:=h.obj i t ht hi
   exact absurd e (o2 _ _ hx).2
  ·rw[adh _ _ (by omega:j<T.length),hl,aem] at e
   obtain⟨t,ht⟩:=h.th hj
   obtain⟨x,hx,_⟩:=h.obj j t ht hj
   exact absurd e.symm (o2 _ _ hx).2
  ·rfl
 ·rcases o3 a x hx with ⟨rfl,rfl⟩ | hx
  ·exact⟨T.length,by rw[←hl];simp,aem _ _ _⟩
  ·obtain⟨i,hi,rfl⟩:=h.sur a x hx
   exact⟨i,ady hi,adh _ _ (by rw[←hl];exact(List.getElem?_eq_some_iff.1 hi).1)⟩
 ·rw[hO,hfo]
  rcases ab7 hi with ⟨hi,hil⟩ | ⟨rfl,rfl⟩
  ·rcases ab7 hh with ⟨hh,_⟩ | ⟨q,_⟩
   ·rw[adh _ _ hil]
    exact h.old i t hi hh
   ·omega
  ·rw[aem]
   refine⟨fun q=>(by cases q),fun ⟨j,_,q⟩=>by omega⟩
theorem ahm {α:Type} (l:List α) (a:α) {i:Nat} (h:i≤l.length):(l++[a]).take i=l.take i:=List.take_append_of_le_length h
theorem Zi.alloc {P P':PHp} {D D':DataW Unit} {T:List Th} {wh:List HV} {here known:List Bool} {ad:Nat→Int} (h:Zi P D T wh here known ad) (hs:Small P) {kd tag id:Int} {sz:Nat} (hk:1≤kd∧kd≤4) (hsz:sz≤1000) (hY:P'.Y=P.Y++[⟨kd,tag,id,aay sz,false⟩]) (hO:P'.O=P.O) (hfy:P'.fy=P.fy) (hfo:P'.fo=P.fo) (hn:P'.noted=P.noted)
  (hid:(id=0∧P'.last=P.last∧D'=D)∨(id=P.last+1∧P'.last=P.last+1∧D'=D.put (.int .i64 (P.last+1)) (.lit (.int .i64 (P.fy+2*P.Y.length))))) :
  Zi P' D' (T++[⟨kd,tag,id,false,List.replicate sz 0⟩]) (wh++[toA (P.fy+2*P.Y.length)]) (here++[true]) (known++[true]) (adN ad T.length (P.fy+2*P.Y.length)):=by
 have hl:=h.rep.len
 have hlk:=h.lk
 have hlw:=h.lw
 have hlast:=h.last
 have h1:=hs.yo
 have h2:=hs.oe
 have hid0:0≤id∧(id=0∨id=1+(idC T:Int)):=by rcases hid with ⟨q,_⟩ | ⟨q,_⟩ <;> omega
 have hne:∀(i:Nat) (t:Th),T[i]?=some t→t.id≠(idC T:Int)+1:=fun i t hi=>by
  have:=ahl h.ids hi
  omega
 refine⟨h.rep.alloc hs hY hO hfy hfo,by simp[hlw],by simp[hlk],fun i hi=>?_,fun i t hi=>?_,?_,?_,fun a=>?_,fun i t hi hh hp=>?_,?_,fun t ht=>?_,fun t ht c hc=>?_,fun t ht=>?_⟩
 ·rcases ab7 hi with ⟨hi,hil⟩ | ⟨rfl,_⟩
  ·obtain⟨a,b⟩:=h.kn i hi
   exact⟨ady a,by rw[adh _ _ (by omega)];exact ady b⟩
  ·rw[hlk,aem]
   exact⟨by rw[←hl];simp,by rw[←hlw];simp⟩
 ·rcases ab7 hi with ⟨hi,hil⟩ | ⟨rfl,rfl⟩
  ·rw[ahm _ _ (by omega)]
   exact h.ids i t hi
  ·rw[ahm _ _ (Nat.le_refl _),List.take_length]
   exact hid0.2
 ·rw[agz]
  rcases hid with ⟨rfl,e,_⟩ | ⟨rfl,e,_⟩
  ·rw[e,hlast];simp
  ·have:(0:Int)<P.last+1:=by omega
   rw[e,if_pos this,hlast]
   omega
 ·rcases hid with ⟨_,_,rfl⟩ | ⟨_,_,rfl⟩
  ·exact h.mp
  ·exact h.mp.put _ _
 ·have key:(∃(i:Nat) (t:Th),(T++[⟨kd,tag,id,false,List.replicate sz 0⟩])[i]?=some t∧(here++[true])[i]?=some true∧t.id=a∧0<a)↔((∃(i:Nat) (t:Th),T[i]?=some t∧here[i]?=some true∧t.id=a∧0<a)∨(id=a∧0<a)):=by
   constructor
   ·rintro ⟨i,t,hi,hh,e,hp⟩
    rcases ab7 hi with ⟨hi,hil⟩ | ⟨rfl,rfl⟩
    ·rcases ab7 hh with ⟨hh,_⟩ | ⟨q,_⟩
     ·exact Or.inl ⟨i,t,hi,hh,e,hp⟩
     ·omega
    ·exact Or.inr ⟨e,hp⟩
   ·rintro (⟨i,t,hi,hh,e,hp⟩ | ⟨e,hp⟩)
    ·exact⟨i,t,ady hi,ady hh,e,hp⟩
    ·exact⟨T.length,⟨kd,tag,id,false,List.replicate sz 0⟩,by simp,by rw[←hl];simp,e,hp⟩
  rw[key,←h.has a]
  rcases hid with ⟨rfl,_,rfl⟩ | ⟨rfl,_,rfl⟩
  ·constructor
   ·exact Or.inl
   ·rintro (q | ⟨q,q2⟩)
    ·exact q
    ·omega
  ·by_cases e:P.last+1=a
   ·rw[←e,Maps.has_put_same h.mp (by simp[WideAt.IsKeyLit])]
    exact⟨fun _=>Or.inr ⟨rfl,by omega⟩,fun _=>rfl⟩
   ·rw[Maps.has_put_other (ae5 fun q=>e q.symm)]
    exact⟨Or.inl,fun q=>q.resolve_right fun q=>e q.1⟩
 ·rcases ab7 hi with ⟨hi,hil⟩ | ⟨rfl,rfl⟩
  ·rcases ab7 hh with ⟨hh,_⟩ | ⟨q,_⟩
   ·rw[adh _ _ hil,←h.at' i t hi hh hp]
    rcases hid with ⟨_,_,rfl⟩ | ⟨_,_,rfl⟩
    ·rfl
    ·have:=hne i t hi
     rw[Maps.atKey_put_other (ae5 (by omega))]
   ·omega
  ·rw[aem]
   have hp:0<id:=hp
   rcases hid with ⟨q,_,rfl⟩ | ⟨rfl,_,rfl⟩
   ·omega
   ·rw[Maps.atKey_put_same h.mp (by simp[WideAt.IsKeyLit])]
 ·refine⟨?_,?_,?_,?_⟩
  ·rw[hn,hO];exact h.nt.nr
  ·rw[hn];exact h.nt.nd
  ·rw[hO,hn];exact h.nt.mj
  ·rw[hO,hY,hfy]
   intro j x hj v hv h4 ⟨i,hi,e⟩
   by_cases hil:i<P.Y.length
   ·exact h.nt.yo j x hj v hv h4 ⟨i,hil,e⟩
   ·have hi:i=P.Y.length:=by simp at hi;omega
    obtain⟨n,hn,e2⟩:=h.rep.sur _ _ (abm hs hj)
    obtain⟨t,ht⟩:=h.rep.th hn
    obtain⟨y,hy,k⟩:=h.rep.obj n t ht hn
    rw[e2,abm hs hj] at hy
    cases hy
    obtain⟨f,hf⟩:=List.getElem?_of_mem hv
    have hfl:=(List.getElem?_eq_some_iff.1 hf).1
    obtain⟨v',hv',q1,q2,q3⟩:=k.fld f _ (List.getElem?_eq_getElem (by rw[←k.len];exact hfl))
    rw[hf] at hv'
    cases hv'
    rcases Int.lt_trichotomy (t.is[f]'(by rw[←k.len];exact hfl)) 0 with q | q | q
    ·have:=q2 q
     omega
    ·have:=q1 q
     subst this
     cases h4
    ·obtain⟨rfl,hm⟩:=q3 q
     obtain⟨t2,ht2⟩:=h.rep.th hm
     obtain⟨y,hy,_⟩:=h.rep.obj _ _ ht2 hm
     have e:ad _=P.fy+2*(i:Int):=e
     rw[e,hi] at hy
     rcases acj hy with ⟨m,hm,e3⟩ | ⟨m,hm,e3⟩
     ·have:=(List.getElem?_eq_some_iff.1 hm).1
      omega
     ·omega
 ·rcases List.mem_append.1 ht with ht | ht
  ·exact h.kd t ht
  ·rw[List.mem_singleton.1 ht];exact hk
 ·rw[List.length_append]
  rcases List.mem_append.1 ht with ht | ht
  ·have:=h.cs t ht c hc
   constructor
   ·omega
   ·simp;omega
  ·rw[List.mem_singleton.1 ht] at hc
   have:c=0:=(List.mem_replicate.1 hc).2
   subst this
   constructor
   ·omega
   ·simp;omega
 ·rcases List.mem_append.1 ht with ht | ht
  ·exact h.sz t ht
  ·rw[List.mem_singleton.1 ht];simpa using hsz
end
section
open Go.RowKit Go.Maps
theorem afq:∀(l:List HO) (j k:Nat) (x:HO) (v:HV),l[j]?=some x→k<x.fs.length→∀m:Nat,(aah l (zm l j+k) v)[m]?=if m=j then some { x with fs:=x.fs.set k v } else l[m]?
 | [],_,_,_,_,h,_,_=>by cases h
 | y :: r,0,k,x,v,h,hk,m=>by
  cases h
  have e:zm (y :: r) 0=0:=rfl
  rw[e,Nat.zero_add,aah,if_pos hk]
  cases m <;> simp
 | y :: r,j+1,k,x,v,h,hk,m=>by
  have e:zm (y :: r) (j+1)=y.fs.length+zm r j:=by simp[zm,zg]
  rw[e,aah,if_neg (by omega),show y.fs.length+zm r j+k-y.fs.length=zm r j+k by omega]
  cases m with
  | zero=>simp
  | succ m =>
   rw[List.getElem?_cons_succ,afq r j k x v (by simpa using h) hk m,List.getElem?_cons_succ]
   simp
structure SetAt1 (P P':PHp) (a:Int) (k:Nat) (v:HV):Prop where
 fo:P'.fo=P.fo
 lo:P'.O.length=P.O.length
 tw:∀b y,aao P b=some y→∃y',aao P' b=some y'∧y'.kind=y.kind∧y'.tag=y.tag∧y'.id=y.id∧y'.fs=if b=a then y.fs.set k v else y.fs
 fr:∀b y',aao P' b=some y'→∃y,aao P b=some y
theorem SetAt1.young {P:PHp} (hs:Small P) {j k:Nat} {x:HO} (hx:P.Y[j]?=some x) (hk:k<x.fs.length) (v:HV):SetAt1 P { P with Y:=aah P.Y (zm P.Y j+k) v } (P.fy+2*j) k v:=by
 have h1:=hs.yo
 have h2:=hs.oe
 have g:=afq P.Y j k x v hx hk
 have hl:=abr P.Y (zm P.Y j+k) v
 have hs':Small { P with Y:=aah P.Y (zm P.Y j+k) v }:=⟨hs.y0,hs.o0,by show P.fy+2*((aah _ _ _).length:Int)≤_;rw[hl];exact hs.y1,hs.o1,hs.yo,hs.oe⟩
 refine⟨rfl,rfl,fun b y hb=>?_,fun b y hb=>?_⟩
 ·rcases acj hb with ⟨m,hm,rfl⟩ | ⟨m,hm,rfl⟩
  ·by_cases e:m=j
   ·subst e
    rw[hx] at hm
    cases hm
    refine⟨{ x with fs:=x.fs.set k v },abx (P:={ P with Y:=aah P.Y (zm P.Y m+k) v }) (j:=m) (by show (aah _ _ _)[m]?=_;rw[g,if_pos rfl]),rfl,rfl,rfl,by rw[if_pos rfl]⟩
   ·refine⟨y,abx (P:={ P with Y:=aah P.Y (zm P.Y j+k) v }) (j:=m) (by show (aah _ _ _)[m]?=_;rw[g,if_neg e];exact hm),rfl,rfl,rfl,by rw[if_neg (by omega)]⟩
  ·exact⟨y,abm hs' hm,rfl,rfl,rfl,by rw[if_neg (by omega)]⟩
 ·rcases acj hb with ⟨m,hm,rfl⟩ | ⟨m,hm,rfl⟩
  ·have hml:m<P.Y.length:=by rw[←hl];exact(List.getElem?_eq_some_iff.1 hm).1
   exact⟨_,abx (List.getElem?_eq_getElem hml)⟩
  ·exact⟨y,abm hs hm⟩
theorem SetAt1.old {P P':PHp} (hs:Small P) {j k:Nat} {x:HO} (hx:P.O[j]?=some x) (hk:k<x.fs.length) (v:HV) (hfy:P'.fy=P.fy) (hfo:P'.fo=P.fo) (hY:P'.Y=P.Y)
  (hO:∀(m:Nat) (y:HO),(aah P.O (zm P.O j+k) v)[m]?=some y→∃y':HO,P'.O[m]?=some y'∧y'.kind=y.kind∧y'.tag=y.tag∧y'.id=y.id∧y'.fs=y.fs) (hl:P'.O.length=P.O.length):SetAt1 P P' (P.fo+2*j) k v:=by
 have h1:=hs.yo
 have h2:=hs.oe
 have g:=afq P.O j k x v hx hk
 have hs':Small P':=⟨by rw[hfy];exact hs.y0,by rw[hfo];exact hs.o0,by rw[hfy,hY];exact hs.y1,by rw[hfo,hl];exact hs.o1,by rw[hfy];exact hs.yo,by rw[hfo];exact hs.oe⟩
 refine⟨hfo,hl,fun b y hb=>?_,fun b y hb=>?_⟩
 ·rcases acj hb with ⟨m,hm,rfl⟩ | ⟨m,hm,rfl⟩
  ·have:=abx (P:=P') (j:=m) (x:=y) (by rw[hY];exact hm)
   rw[hfy] at this
   exact⟨y,this,rfl,rfl,rfl,by rw[if_neg (by omega)]⟩
  ·by_cases e:m=j
   ·subst e
    rw[hx] at hm
    cases hm
    obtain⟨y',q1,q2,q3,q4,q5⟩:=hO m _ (by rw[g,if_pos rfl])
    have:=abm hs' q1
    rw[hfo] at this
    exact⟨y',this,q2,q3,q4,by rw[if_pos rfl];exact q5⟩
   ·obtain⟨y',q1,q2,q3,q4,q5⟩:=hO m y (by rw[g,if_neg e];exact hm)
    have:=abm hs' q1
    rw[hfo] at this
    exact⟨y',this,q2,q3,q4,by rw[if_neg (by omega)];exact q5⟩
 ·rcases acj hb with ⟨m,hm,rfl⟩ | ⟨m,hm,rfl⟩
  ·rw[hY] at hm
   rw[hfy]
   exact⟨y,abx hm⟩
  ·have hml:m<P.O.length:=by rw[←hl];exact(List.getElem?_eq_some_iff.1 hm).1
   rw[hfo]
   exact⟨_,abm hs (List.getElem?_eq_getElem hml)⟩
theorem afi {α:Type} {l:List α} {i m:Nat} {a b:α} (h:(l.set i a)[m]?=some b):(m=i∧b=a∧i<l.length)∨(m≠i∧l[m]?=some b):=by
 rw[List.getElem?_set] at h
 by_cases e:i=m
 ·rw[if_pos e] at h
  split at h
  ·cases h;exact Or.inl ⟨e.symm,rfl,by assumption⟩
  ·cases h
 ·rw[if_neg e] at h
  exact Or.inr ⟨fun q=>e q.symm,h⟩
def adz (T:List Th) (i:Nat) (t:Th) (k:Nat) (c:Int):List Th:=T.set i { t with is:=t.is.set k c }
theorem Rep.set {P P':PHp} {T:List Th} {here:List Bool} {ad:Nat→Int} (h:Rep P T here ad) {i k:Nat} {t:Th} (ht:T[i]?=some t) (hi:here[i]?=some true) {c:Int} {v:HV} (hf:Fld here ad c v) (q:SetAt1 P P' (ad i) k v):Rep P' (adz T i t k c) here ad:=by
 have hil:=(List.getElem?_eq_some_iff.1 ht).1
 refine⟨by rw[adz,List.length_set];exact h.len,fun m u hu hh=>?_,h.inj,fun a x hx=>?_,fun m u hu hh=>?_⟩
 ·rcases afi hu with ⟨rfl,rfl,_⟩ | ⟨hne,hu⟩
  ·obtain⟨x,hx,w⟩:=h.obj m t ht hi
   obtain⟨y,hy,e1,e2,e3,e4⟩:=q.tw _ _ hx
   rw[if_pos rfl] at e4
   refine⟨y,hy,e1.trans w.kind,e2.trans w.tag,e3.trans w.id,by rw[e4,List.length_set,w.len];simp,fun n d hd=>?_⟩
   rcases afi hd with ⟨rfl,rfl,hnl⟩ | ⟨hne,hd⟩
   ·exact⟨v,by rw[e4,List.getElem?_set,if_pos rfl,if_pos (by rw[w.len];exact hnl)],hf⟩
   ·obtain⟨u,hu,hf⟩:=w.fld n d hd
    exact⟨u,by rw[e4,List.getElem?_set,if_neg (fun e=>hne e.symm)];exact hu,hf⟩
  ·obtain⟨x,hx,w⟩:=h.obj m u hu hh
   obtain⟨y,hy,e1,e2,e3,e4⟩:=q.tw _ _ hx
   rw[if_neg (fun e=>hne (h.inj _ _ hh hi e))] at e4
   exact⟨y,hy,e1.trans w.kind,e2.trans w.tag,e3.trans w.id,by rw[e4];exact w.len,by rw[e4];exact w.fld⟩
 ·obtain⟨y,hy⟩:=q.fr a x hx
  exact h.sur a y hy
 ·rw[q.fo,q.lo]
  rcases afi hu with ⟨rfl,rfl,_⟩ | ⟨hne,hu⟩
  ·exact h.old m t ht hi
  ·exact h.old m u hu hh
theorem am8 (T:List Th):∀(i:Nat) (u:Th),(∀t,T[i]?=some t→u.id=t.id)→idC (T.set i u)=idC T:=by
 induction T with
 | nil=>intro i u _;rfl
 | cons a r ih =>
  intro i u h
  cases i with
  | zero =>
   have:=h a rfl
   unfold idC
   rw[List.set_cons_zero,List.filter_cons,List.filter_cons,this]
   split <;> rfl
  | succ i =>
   have:=ih i u (fun t ht=>h t (by simpa using ht))
   unfold idC at *
   rw[List.set_cons_succ,List.filter_cons,List.filter_cons]
   split
   ·rw[List.length_cons,List.length_cons,this]
   ·exact this
theorem aen {T:List Th} {i m k:Nat} {t u:Th} {c:Int} (ht:T[i]?=some t) (h:(adz T i t k c)[m]?=some u):∃t',T[m]?=some t'∧t'.id=u.id∧t'.kind=u.kind∧t'.is.length=u.is.length∧∀d∈u.is,d∈t'.is∨d=c:=by
 rcases afi h with ⟨rfl,rfl,_⟩ | ⟨hne,hu⟩
 ·exact⟨t,ht,rfl,rfl,by simp,fun d hd=>List.mem_or_eq_of_mem_set hd⟩
 ·exact⟨u,hu,rfl,rfl,rfl,fun d hd=>Or.inl hd⟩
theorem aog {T:List Th} {i m k:Nat} {t u:Th} {c:Int} (ht:T[i]?=some t) (h:T[m]?=some u):∃t',(adz T i t k c)[m]?=some t'∧t'.id=u.id:=by
 have hil:=(List.getElem?_eq_some_iff.1 ht).1
 unfold adz
 rw[List.getElem?_set]
 by_cases e:i=m
 ·subst e
  rw[ht] at h
  cases h
  rw[if_pos rfl,if_pos hil]
  exact⟨_,rfl,rfl⟩
 ·rw[if_neg e]
  exact⟨u,h,rfl⟩
theorem Zi.set {P P':PHp} {D:DataW Unit} {T:List Th} {wh:List HV} {here known:List Bool} {ad:Nat→Int} (h:Zi P D T wh here known ad) {i k:Nat} {t:Th} (ht:T[i]?=some t) (hi:here[i]?=some true) {c:Int} {v:HV} (hf:Fld here ad c v) (hc:-1≤c∧c≤T.length) (q:SetAt1 P P' (ad i) k v) (hl:P'.last=P.last) (hn:NtOk P'):Zi P' D (adz T i t k c) wh here known ad:=by
 have hT:(adz T i t k c).length=T.length:=List.length_set
 have tk:∀m:Nat,idC ((adz T i t k c).take m)=idC (T.take m):=fun m=>by
  unfold adz
  rw[List.take_set]
  refine am8 _ _ _ fun u hu=>?_
  rw[List.getElem?_take] at hu
  split at hu
  ·rw[ht] at hu;cases hu;rfl
  ·cases hu
 refine⟨h.rep.set ht hi hf q,by rw[hT];exact h.lw,by rw[hT];exact h.lk,h.kn,fun m u hu=>?_,?_,h.mp,fun a=>?_,fun m u hu hh hp=>?_,hn,fun u hu=>?_,fun u hu d hd=>?_,fun u hu=>?_⟩
 ·obtain⟨t',a1,a2,_⟩:=aen ht hu
  rw[tk,←a2]
  exact h.ids m t' a1
 ·have:=tk T.length
  rw[List.take_of_length_le (by rw[hT];exact Nat.le_refl _),List.take_length] at this
  rw[hl,this]
  exact h.last
 ·rw[h.has a]
  constructor
  ·rintro ⟨m,u,a1,a2,a3,a4⟩
   obtain⟨t',b1,b2⟩:=aog (k:=k) (c:=c) ht a1
   exact⟨m,t',b1,a2,b2.trans a3,a4⟩
  ·rintro ⟨m,u,a1,a2,a3,a4⟩
   obtain⟨t',b1,b2,_⟩:=aen ht a1
   exact⟨m,t',b1,a2,b2.trans a3,a4⟩
 ·obtain⟨t',b1,b2,_⟩:=aen ht hu
  rw[←b2]
  exact h.at' m t' b1 hh (by rw[b2];exact hp)
 ·obtain⟨m,hm⟩:=List.getElem?_of_mem hu
  obtain⟨t',b1,b2,b3,_⟩:=aen ht hm
  rw[←b3]
  exact h.kd t' (List.mem_of_getElem? b1)
 ·obtain⟨m,hm⟩:=List.getElem?_of_mem hu
  obtain⟨t',b1,b2,b3,b4,b5⟩:=aen ht hm
  rw[hT]
  rcases b5 d hd with q | rfl
  ·exact h.cs t' (List.mem_of_getElem? b1) d q
  ·exact hc
 ·obtain⟨m,hm⟩:=List.getElem?_of_mem hu
  obtain⟨t',b1,b2,b3,b4,b5⟩:=aen ht hm
  rw[←b4]
  exact h.sz t' (List.mem_of_getElem? b1)
theorem NtOk.young {P:PHp} (h:NtOk P) (i:Nat) (v:HV):NtOk { P with Y:=aah P.Y i v }:=⟨h.nr,h.nd,h.mj,fun j x hj u hu h4 ⟨m,hm,e⟩=>h.yo j x hj u hu h4 ⟨m,by rw[←abr P.Y i v];exact hm,e⟩⟩
theorem NtOk.oset {P:PHp} (h:NtOk P) {j k:Nat} {x:HO} (hx:P.O[j]?=some x) (hk:k<x.fs.length) {v:HV} (hv:v.kind=4→x.noted=true∨∀i:Nat,i<P.Y.length→v.n≠P.fy+2*i):NtOk (setO P (zm P.O j+k) v):=by
 have g:=afq P.O j k x v hx hk
 have hl:=abr P.O (zm P.O j+k) v
 have gt:∀(m:Nat) (y:HO),(setO P (zm P.O j+k) v).O[m]?=some y→∃z,P.O[m]?=some z∧z.noted=y.noted∧∀u∈y.fs,u∈z.fs∨(m=j∧u=v):=fun m y hy=>by
  have hy:(aah P.O (zm P.O j+k) v)[m]?=some y:=hy
  rw[g] at hy
  by_cases e:m=j
  ·rw[if_pos e] at hy
   cases hy
   exact⟨x,by rw[e];exact hx,rfl,fun u hu=>by rcases List.mem_or_eq_of_mem_set hu with q | q;exact Or.inl q;exact Or.inr ⟨e,q⟩⟩
  ·rw[if_neg e] at hy
   exact⟨y,hy,rfl,fun u hu=>Or.inl hu⟩
 refine⟨fun z hz=>?_,h.nd,fun m y hy=>?_,fun m y hy u hu h4 hin=>?_⟩
 ·obtain⟨m,e,hm⟩:=h.nr z hz
  exact⟨m,e,by show m<(aah _ _ _).length;rw[hl];exact hm⟩
 ·obtain⟨z,a1,a2,_⟩:=gt m y hy
  rw[←a2]
  exact h.mj m z a1
 ·obtain⟨z,a1,a2,a3⟩:=gt m y hy
  rw[←a2]
  rcases a3 u hu with q | ⟨rfl,rfl⟩
  ·exact h.yo m z a1 u q h4 hin
  ·rw[hx] at a1
   cases a1
   rcases hv h4 with q | q
   ·exact q
   ·obtain⟨n,hn,e⟩:=hin
    exact absurd e (q n hn)
theorem NtOk.note {P:PHp} (h:NtOk P) {j k:Nat} {x:HO} (hx:P.O[j]?=some x) (hk:k<x.fs.length) {v:HV} (hxn:x.noted=false):NtOk (noteP (setO P (zm P.O j+k) v) j):=by
 have g:=afq P.O j k x v hx hk
 have hl:=abr P.O (zm P.O j+k) v
 have hjl:=(List.getElem?_eq_some_iff.1 hx).1
 have hnj:(j:Int) ∉ P.noted:=fun q=>by
  have:=(h.mj j x hx).2 q
  rw[hxn] at this
  cases this
 have gt:∀(m:Nat) (y:HO),(aam true (aah P.O (zm P.O j+k) v) j)[m]?=some y→(m=j∧y.noted=true)∨(m≠j∧P.O[m]?=some y):=fun m y hy=>by
  rw[ae4] at hy
  by_cases e:m=j
  ·rw[if_pos e,g,if_pos e] at hy
   cases hy
   exact Or.inl ⟨e,rfl⟩
  ·rw[if_neg e,g,if_neg e] at hy
   exact Or.inr ⟨e,hy⟩
 refine⟨fun z hz=>?_,?_,fun m y hy=>?_,fun m y hy u hu h4 hin=>?_⟩
 ·show ∃m:Nat,z=m∧m<(aam true (aah _ _ _) j).length
  rw[acn,hl]
  rcases List.mem_append.1 hz with hz | hz
  ·exact h.nr z hz
  ·rw[List.mem_singleton.1 hz]
   exact⟨j,rfl,hjl⟩
 ·show (P.noted++[(j:Int)]).Nodup
  refine List.nodup_append.2 ⟨h.nd,by simp,fun a ha b hb e=>?_⟩
  rw[List.mem_singleton.1 hb] at e
  exact hnj (e ▸ ha)
 ·show y.noted=true↔(m:Int)∈P.noted++[(j:Int)]
  rw[List.mem_append,List.mem_singleton]
  rcases gt m y hy with ⟨rfl,q⟩ | ⟨q,hm⟩
  ·exact⟨fun _=>Or.inr rfl,fun _=>q⟩
  ·rw[h.mj m y hm]
   exact⟨Or.inl,fun a=>a.resolve_right fun e=>q (by omega)⟩
 ·rcases gt m y hy with ⟨rfl,q⟩ | ⟨q,hm⟩
  ·exact q
  ·exact h.yo m y hm u hu h4 hin
end
section
open Go.RowKit Go.Maps
theorem ap5 (L:List PL) (v:HV):(phi L v).s=v.s:=by
 unfold phi
 split
 ·rfl
 ·split
  ·rfl
  ·split <;> rfl
theorem amh (L:List PL) (a:Int):phi L (toA a)=toA (phi L (toA a)).n:=by
 have h1:=(ael L (toA a)).1
 have h2:=ap5 L (toA a)
 cases e:phi L (toA a) with
 | mk k n s =>
  rw[e] at h1 h2
  cases h1
  cases h2
  rfl
theorem aeo {L:List PL} {a:Int} (h:aab L 0 a=none):(phi L (toA a)).n=a:=by
 unfold phi
 rw[if_neg (by simp[toA])]
 simp only[toA,h]
theorem aep {L:List PL} {a:Int} {q:Nat×Nat} (h:aab L 0 a=some q) (hg:aaf L q≠0):(phi L (toA a)).n=aaf L q:=by
 unfold phi
 rw[if_neg (by simp[toA])]
 simp only[toA,h,if_neg hg]
theorem ahn {L:List PL} {a:Int} (h:aab L 0 a=none):aa0 L (toA a):=fun _ q hq=>by
 have hq:aab L 0 a=some q:=hq
 rw[h] at hq
 cases hq
theorem ac4 {L:List PL} {a:Int} {q:Nat×Nat} (h:aab L 0 a=some q):aa0 L (toA a)↔aaf L q≠0:=by
 constructor
 ·intro w
  exact w rfl q h
 ·intro hg _ q' hq'
  have hq':aab L 0 a=some q':=hq'
  rw[h] at hq'
  cases hq'
  exact hg
theorem akd {L:List PL} {a b:Int} {q:Nat×Nat} (h:aab L 0 a=some q) (k:aab L 0 b=some q):a=b:=by
 obtain⟨p,x,h1,_,_,h2⟩:=ae8 h
 obtain⟨p',x',k1,_,_,k2⟩:=ae8 k
 rw[h1] at k1
 cases k1
 omega
structure Cov (P:PHp) (L:List PL):Prop where
 tw:∀a x,aao P a=some x→∀q,aab L 0 a=some q→aak L q=some x
 fr:∀q x,aak L q=some x→∃a,aab L 0 a=some q∧aao P a=some x
theorem Cov.later {P:PHp} {L L':List PL} (h:Cov P L) (l:Later L L'):Cov P L' :=
 ⟨fun a x hx q hq=>by rw[l.objs];exact h.tw a x hx q (by rw[←l.leads];exact hq),fun q x hx=>by
  rw[l.objs] at hx
  obtain⟨a,h1,h2⟩:=h.fr q x hx
  exact⟨a,by rw[l.leads];exact h1,h2⟩⟩
structure Same (L:List PL) (x y:HO):Prop where
 id:y.id=x.id
 kind:y.kind=x.kind
 tag:y.tag=x.tag
 fs:y.fs=x.fs.map (phi L)
 went:∀u∈x.fs,aa0 L u
theorem aoh {k0:Nat} {M:MS} (hI:MInv k0 (zg M.T).length M) {q:Nat×Nat} {x:HO} (hq:aak M.L q=some x) (hg:aaf M.L q≠0):∃(t:Nat) (y:HO),M.T[t]?=some y∧k0≤t∧aaf M.L q=M.ft+2*(t:Int)∧Same M.L x y:=by
 obtain⟨t,tk,ht,e⟩:=hI.conv q hg
 obtain⟨y,hy⟩:∃y,M.T[t]?=some y:=⟨_,List.getElem?_eq_getElem ht⟩
 obtain⟨q2,x2,a1,a2,a3⟩:=hI.orig t y tk hy
 have:q2=q:=hI.inj q2 q (by have:=hI.ft;omega) (by omega)
 subst this
 rw[hq] at a2
 cases a2
 unfold hdr at a3
 simp only[Prod.mk.injEq] at a3
 obtain⟨b1,b2,b3,b4,_⟩:=a3
 have key:∀(k:Nat) u,x.fs[k]?=some u→y.fs[k]?=some (phi M.L u)∧aa0 M.L u:=fun k u hu=>by
  have hk:k<y.fs.length:=by
   have:=(List.getElem?_eq_some_iff.1 hu).1
   omega
  have hb:=ach hy
  have h1:=(hI.flds t q2 x k u tk ht e hq hu).1 (by omega)
  exact⟨by rw[←aef hy hk];exact h1.1,h1.2⟩
 refine⟨t,y,hy,tk,e,b3,b1,b2,?_,fun u hu=>?_⟩
 ·apply List.ext_getElem?
  intro k
  rw[List.getElem?_map]
  cases hu:x.fs[k]? with
  | none =>
   have:=List.getElem?_eq_none_iff.1 hu
   rw[List.getElem?_eq_none (by omega)]
   rfl
  | some u=>exact(key k u hu).1
 ·obtain⟨k,hk⟩:=List.getElem?_of_mem hu
  exact(key k u hk).2
structure Ck (P P':PHp) (k0:Nat) (M:MS):Prop where
 inv:MInv k0 (zg M.T).length M
 cov:Cov P M.L
 st:∀a x,aao P a=some x→aab M.L 0 a=none→∃(t:Nat) (y:HO),t<k0∧a=M.ft+2*(t:Int)∧M.T[t]?=some y∧Same M.L x y
 lo:∀t:Nat,t<k0→∃x,aao P (M.ft+2*(t:Int))=some x∧aab M.L 0 (M.ft+2*(t:Int))=none
 nY:P'.Y=[]
 nO:P'.O=M.T
 nf:P'.fo=M.ft
theorem Ck.obj {P P':PHp} {k0:Nat} {M:MS} (h:Ck P P' k0 M) {a:Int} {x:HO} (hx:aao P a=some x) (hw:aa0 M.L (toA a)):∃y,aao P' (phi M.L (toA a)).n=some y∧Same M.L x y:=by
 cases hq:aab M.L 0 a with
 | none =>
  obtain⟨t,y,h1,h2,h3,h4⟩:=h.st a x hx hq
  refine⟨y,?_,h4⟩
  have:=aii (P:=P') h.nY (t:=t) (y:=y) (by rw[h.nO];exact h3)
  rw[aeo hq,h2,←h.nf]
  exact this
 | some q =>
  have hg:=(ac4 hq).1 hw
  obtain⟨t,y,h1,_,h2,h3⟩:=aoh h.inv (h.cov.tw a x hx q hq) hg
  refine⟨y,?_,h3⟩
  have:=aii (P:=P') h.nY (t:=t) (y:=y) (by rw[h.nO];exact h1)
  rw[aep hq hg,h2,←h.nf]
  exact this
theorem Ck.sur {P P':PHp} {k0:Nat} {M:MS} (h:Ck P P' k0 M) {b:Int} {y:HO} (hy:aao P' b=some y):∃a x,aao P a=some x∧aa0 M.L (toA a)∧(phi M.L (toA a)).n=b:=by
 obtain⟨t,ht,e⟩:=ahg h.nY hy
 rw[h.nO] at ht
 rw[h.nf] at e
 by_cases hk:t<k0
 ·obtain⟨x,hx,hl⟩:=h.lo t hk
  exact⟨_,x,hx,ahn hl,by rw[aeo hl,e]⟩
 ·obtain⟨q,x,a1,a2,_⟩:=h.inv.orig t y (by omega) ht
  have hft:=h.inv.ft
  obtain⟨a,h1,h2⟩:=h.cov.fr q x a2
  have hg:aaf M.L q≠0:=by omega
  exact⟨a,x,h2,(ac4 h1).2 hg,by rw[aep h1 hg,a1,e]⟩
theorem Ck.inj {P P':PHp} {k0:Nat} {M:MS} (h:Ck P P' k0 M) {a a':Int} {x x':HO} (hx:aao P a=some x) (hx':aao P a'=some x') (hw:aa0 M.L (toA a)) (hw':aa0 M.L (toA a')) (e:(phi M.L (toA a)).n=(phi M.L (toA a')).n):a=a':=by
 cases hq:aab M.L 0 a with
 | none =>
  rw[aeo hq] at e
  cases hq':aab M.L 0 a' with
  | none=>rw[aeo hq'] at e;exact e
  | some q' =>
   have hg:=(ac4 hq').1 hw'
   rw[aep hq' hg] at e
   obtain⟨t,y,h1,h2,_⟩:=h.st a x hx hq
   obtain⟨t',k1,k2,k3⟩:=h.inv.conv q' hg
   omega
 | some q =>
  have hg:=(ac4 hq).1 hw
  rw[aep hq hg] at e
  cases hq':aab M.L 0 a' with
  | none =>
   rw[aeo hq'] at e
   obtain⟨t,y,h1,h2,_⟩:=h.st a' x' hx' hq'
   obtain⟨t',k1,k2,k3⟩:=h.inv.conv q hg
   omega
  | some q' =>
   have hg':=(ac4 hq').1 hw'
   rw[aep hq' hg'] at e
   have:=h.inv.inj q q' hg e
   subst this
   exact akd hq hq'
def ac2 (here:List Bool) (S:Nat→Bool):List Bool:=here.mapIdx fun i b=>b&&S i
theorem ab8 {here:List Bool} {S:Nat→Bool} {i:Nat}:(ac2 here S)[i]?=some true↔here[i]?=some true∧S i=true:=by
 unfold ac2
 rw[List.getElem?_mapIdx]
 cases h:here[i]? with
 | none=>simp
 | some b=>cases b <;> simp
def abk (T:List Th) (here':List Bool):List Th:=T.mapIdx fun i t=>{ t with old:=(here'[i]?).getD false }
theorem adq {T:List Th} {here':List Bool} {i:Nat} {u:Th} (h:(abk T here')[i]?=some u):∃t,T[i]?=some t∧u={ t with old:=(here'[i]?).getD false }:=by
 unfold abk at h
 rw[List.getElem?_mapIdx] at h
 cases ht:T[i]? with
 | none=>rw[ht] at h;cases h
 | some t=>rw[ht] at h;cases h;exact⟨t,rfl,rfl⟩
theorem agj {T:List Th} {here':List Bool} {i:Nat} {t:Th} (h:T[i]?=some t):(abk T here')[i]?=some { t with old:=(here'[i]?).getD false }:=by
 unfold abk
 rw[List.getElem?_mapIdx,h]
 rfl
theorem acz (T:List Th) (here':List Bool):(abk T here').length=T.length:=by simp[abk]
theorem Rep.coll {P P':PHp} {T:List Th} {here:List Bool} {ad:Nat→Int} {k0:Nat} {M:MS} (h:Rep P T here ad) (c:Ck P P' k0 M) {S:Nat→Bool} (hS:∀i:Nat,here[i]?=some true→(S i=true↔aa0 M.L (toA (ad i)))) :
  Rep P' (abk T (ac2 here S)) (ac2 here S) (fun i=>(phi M.L (toA (ad i))).n):=by
 refine⟨by simp[ac2,acz,h.len],fun i u hu hh=>?_,fun i j hi hj e=>?_,fun b y hy=>?_,fun i u hu hh=>?_⟩
 ·obtain⟨h1,h2⟩:=ab8.1 hh
  obtain⟨t,ht,rfl⟩:=adq hu
  obtain⟨x,hx,w⟩:=h.obj i t ht h1
  obtain⟨y,hy,s⟩:=c.obj hx ((hS i h1).1 h2)
  refine⟨y,hy,s.kind.trans w.kind,s.tag.trans w.tag,s.id.trans w.id,by rw[s.fs,List.length_map];exact w.len,fun k d hd=>?_⟩
  obtain⟨v,hv,f1,f2,f3⟩:=w.fld k d hd
  refine⟨phi M.L v,by rw[s.fs,List.getElem?_map,hv];rfl,fun q=>?_,fun q=>?_,fun q=>?_⟩
  ·rw[f1 q]
   exact(ael M.L acv).2 (by simp[acv])
  ·rw[(ael M.L v).1]
   exact f2 q
  ·obtain⟨rfl,g2⟩:=f3 q
   exact⟨amh _ _,ab8.2 ⟨g2,(hS _ g2).2 (s.went _ (List.mem_of_getElem? hv))⟩⟩
 ·obtain⟨h1,h2⟩:=ab8.1 hi
  obtain⟨k1,k2⟩:=ab8.1 hj
  obtain⟨t,ht⟩:=h.th h1
  obtain⟨u,hu⟩:=h.th k1
  obtain⟨x,hx,_⟩:=h.obj i t ht h1
  obtain⟨y,hy,_⟩:=h.obj j u hu k1
  exact h.inj i j h1 k1 (c.inj hx hy ((hS i h1).1 h2) ((hS j k1).1 k2) e)
 ·obtain⟨a,x,hx,hw,e⟩:=c.sur hy
  obtain⟨i,hi,rfl⟩:=h.sur a x hx
  exact⟨i,ab8.2 ⟨hi,(hS i hi).2 hw⟩,e⟩
 ·obtain⟨h1,h2⟩:=ab8.1 hh
  obtain⟨t,ht,rfl⟩:=adq hu
  obtain⟨x,hx,w⟩:=h.obj i t ht h1
  obtain⟨y,hy,s⟩:=c.obj hx ((hS i h1).1 h2)
  obtain⟨j,hj,e⟩:=ahg c.nY hy
  refine⟨fun _=>⟨j,(List.getElem?_eq_some_iff.1 hj).1,e⟩,fun _=>?_⟩
  show ((ac2 here S)[i]?).getD false=true
  rw[hh]
  rfl
theorem ake:∀(z:List (HO×Int)) (D:DataW Unit),Maps.IsMap D→(∀p∈z,0≤p.1.id)→z.Pairwise (fun p q=>0<p.1.id→p.1.id≠q.1.id) →
  Maps.IsMap (z.foldl (fun D p=>abg D p.1 p.2) D) ∧
  (∀p∈z,0<p.1.id→(p.2≠0→Maps.has (z.foldl (fun D p=>abg D p.1 p.2) D) (.int .i64 p.1.id)=true∧∀d,(z.foldl (fun D p=>abg D p.1 p.2) D).atKey (.int .i64 p.1.id) d=.lit (.int .i64 p.2))∧(p.2=0→Maps.has (z.foldl (fun D p=>abg D p.1 p.2) D) (.int .i64 p.1.id)=false)) ∧
  (∀a,(∀p∈z,p.1.id≠a)→Maps.has (z.foldl (fun D p=>abg D p.1 p.2) D) (.int .i64 a)=Maps.has D (.int .i64 a)∧∀d,(z.foldl (fun D p=>abg D p.1 p.2) D).atKey (.int .i64 a) d=D.atKey (.int .i64 a) d) ∧
  (∀a,a≤0→Maps.has D (.int .i64 a)=false→Maps.has (z.foldl (fun D p=>abg D p.1 p.2) D) (.int .i64 a)=false)
 | [],D,hm,_,_=>⟨hm,fun p hp=>(by cases hp),fun a _=>⟨rfl,fun _=>rfl⟩,fun a _ h=>h⟩
 | p :: z,D,hm,hn,hp=>by
  have hp':=List.pairwise_cons.1 hp
  have hn0:=hn p (List.mem_cons_self ..)
  have hm':Maps.IsMap (abg D p.1 p.2):=by
   unfold abg
   split
   ·exact hm.del _
   ·split
    ·exact hm.put _ _
    ·exact hm
  obtain⟨r1,r2,r3,r4⟩:=ake z (abg D p.1 p.2) hm' (fun q hq=>hn q (List.mem_cons_of_mem _ hq)) hp'.2
  rw[List.foldl_cons]
  refine⟨r1,fun q hq h0=>?_,fun a ha=>?_,fun a ha hd=>?_⟩
  ·rcases List.mem_cons.1 hq with rfl | hq
   ·obtain⟨e1,e2⟩:=r3 q.1.id (fun r hr e=>hp'.1 r hr h0 e.symm)
    refine⟨fun hne=>⟨?_,fun d=>?_⟩,fun he=>?_⟩
    ·rw[e1]
     unfold abg
     rw[if_neg hne,if_pos h0,Maps.has_put_same hm (by simp[WideAt.IsKeyLit])]
    ·rw[e2]
     unfold abg
     rw[if_neg hne,if_pos h0,Maps.atKey_put_same hm (by simp[WideAt.IsKeyLit])]
    ·rw[e1]
     unfold abg
     rw[if_pos he,Maps.has_del_same]
   ·exact r2 q hq h0
  ·have hpa:=ha p (List.mem_cons_self ..)
   obtain⟨e1,e2⟩:=r3 a (fun q hq=>ha q (List.mem_cons_of_mem _ hq))
   rw[e1]
   refine⟨?_,fun d=>?_⟩
   ·unfold abg
    split
    ·rw[Maps.has_del_other (ae5 fun e=>hpa e.symm)]
    ·split
     ·rw[Maps.has_put_other (ae5 fun e=>hpa e.symm)]
     ·rfl
   ·rw[e2]
    unfold abg
    split
    ·rw[Maps.atKey_del_other (ae5 fun e=>hpa e.symm)]
    ·split
     ·rw[Maps.atKey_put_other (ae5 fun e=>hpa e.symm)]
     ·rfl
  ·refine r4 a ha ?_
   unfold abg
   split
   ·by_cases e:p.1.id=a
    ·rw[e,Maps.has_del_same]
    ·rw[Maps.has_del_other (ae5 fun q=>e q.symm)]
     exact hd
   ·split
    ·rw[Maps.has_put_other (ae5 (by omega))]
     exact hd
    ·exact hd
theorem Zi.apart {P:PHp} {D:DataW Unit} {T:List Th} {wh:List HV} {here known:List Bool} {ad:Nat→Int} (h:Zi P D T wh here known ad) (hs:Small P):(P.Y++P.O).Pairwise (fun x y=>0<x.id→x.id≠y.id):=by
 have h1:=hs.yo
 have h2:=hs.oe
 have key:∀(n:Nat) (hn:n<(P.Y++P.O).length),aao P (if n<P.Y.length then P.fy+2*(n:Int) else P.fo+2*((n-P.Y.length:Nat):Int))=some (P.Y++P.O)[n]:=fun n hn=>by
  by_cases hl:n<P.Y.length
  ·rw[if_pos hl]
   exact abx (by rw[List.getElem_append_left hl];exact List.getElem?_eq_getElem hl)
  ·rw[if_neg hl]
   rw[List.length_append] at hn
   exact abm hs (by rw[List.getElem_append_right (by omega)];exact List.getElem?_eq_getElem (by omega))
 refine List.pairwise_iff_getElem.2 fun m n hm hn hlt hp e=>?_
 obtain⟨i,hi,ei⟩:=h.rep.sur _ _ (key m hm)
 obtain⟨j,hj,ej⟩:=h.rep.sur _ _ (key n hn)
 obtain⟨t,ht⟩:=h.rep.th hi
 obtain⟨u,hu⟩:=h.rep.th hj
 obtain⟨x,hx,wx⟩:=h.rep.obj i t ht hi
 obtain⟨y,hy,wy⟩:=h.rep.obj j u hu hj
 rw[ei,key m hm] at hx
 rw[ej,key n hn] at hy
 cases hx
 cases hy
 have:=ahy h.ids ht hu (by rw[←wx.id,←wy.id];exact e) (by rw[←wx.id];exact hp)
 subst this
 rw[ei] at ej
 split at ej <;> split at ej <;> omega
theorem Zi.coll {P P':PHp} {D:DataW Unit} {T:List Th} {wh wh':List HV} {here known known':List Bool} {ad:Nat→Int} {k0:Nat} {M:MS} (h:Zi P D T wh here known ad) (hs:Small P) (c:Ck P P' k0 M) {S:Nat→Bool} (hS:∀i:Nat,here[i]?=some true→(S i=true↔aa0 M.L (toA (ad i))))
  (hsub:((M.L.map PL.objs).flatten).Sublist (P.Y++P.O)) (hl:P'.last=P.last) (hn:P'.noted=[]) (hm:∀y∈M.T,y.noted=false) (lw:wh'.length=T.length) (lk:known'.length=T.length)
  (kn:∀i:Nat,known'[i]?=some true→(ac2 here S)[i]?=some true∧wh'[i]?=some (toA (phi M.L (toA (ad i))).n)) :
  Zi P' (abb D M.L) (abk T (ac2 here S)) wh' (ac2 here S) known' (fun i=>(phi M.L (toA (ad i))).n):=by
 have hZ:=aiv c.inv.full
 have hpw:(Z M.L).Pairwise (fun p q=>0<p.1.id→p.1.id≠q.1.id):=by
  have:=(h.apart hs).sublist hsub
  rw[←hZ,List.pairwise_map] at this
  exact this
 have hge:∀p∈Z M.L,0≤p.1.id:=fun p hp=>by
  have:p.1∈P.Y++P.O:=hsub.subset (by rw[←hZ];exact List.mem_map.2 ⟨p,hp,rfl⟩)
  obtain⟨b,hb⟩:=amg hs this
  obtain⟨i,hi,rfl⟩:=h.rep.sur _ _ hb
  obtain⟨t,ht⟩:=h.rep.th hi
  obtain⟨x,hx,w⟩:=h.rep.obj i t ht hi
  rw[hb] at hx
  cases hx
  rw[w.id]
  exact(ahl h.ids ht).1
 obtain⟨s1,s2,s3,s4⟩:=ake (Z M.L) D h.mp hge hpw
 rw[←aik] at s1 s2 s3 s4
 have tk:∀m:Nat,idC ((abk T (ac2 here S)).take m)=idC (T.take m):=fun m=>by
  unfold idC abk
  rw[List.mapIdx_eq_zipIdx_map,←List.map_take,List.filter_map,List.length_map]
  have e:T.take m=(T.zipIdx.take m).map Prod.fst:=by rw[List.map_take,List.zipIdx_map_fst]
  rw[e,List.filter_map,List.length_map]
  rfl
 -- an object that is there: what its identity leads to
 have key:∀(i:Nat) (t:Th),T[i]?=some t→here[i]?=some true→0<t.id→(S i=true→Maps.has (abb D M.L) (.int .i64 t.id)=true∧(abb D M.L).atKey (.int .i64 t.id) (.lit (.int .i64 0))=.lit (.int .i64 (phi M.L (toA (ad i))).n))∧(S i=false→Maps.has (abb D M.L) (.int .i64 t.id)=false):=fun i t ht hi hp=>by
  obtain⟨x,hx,w⟩:=h.rep.obj i t ht hi
  cases hq:aab M.L 0 (ad i) with
  | none =>
   have hw:=(hS i hi).2 (ahn hq)
   refine⟨fun _=>?_,fun e=>by rw[hw] at e;cases e⟩
   have hno:∀p∈Z M.L,p.1.id≠t.id:=fun p hp' e=>by
    obtain⟨q,hq1,hq2⟩:=(afy (x:=p.1) (a:=p.2) c.inv.full).1 hp'
    obtain⟨a,a1,a2⟩:=c.cov.fr q _ hq1
    obtain⟨j,hj,rfl⟩:=h.rep.sur _ _ a2
    obtain⟨u,hu⟩:=h.rep.th hj
    obtain⟨y,hy,wy⟩:=h.rep.obj j u hu hj
    rw[a2] at hy
    cases hy
    have:=ahy h.ids ht hu (by rw[←wy.id];exact e.symm) hp
    subst this
    rw[hq] at a1
    cases a1
   obtain⟨e1,e2⟩:=s3 t.id hno
   exact⟨by rw[e1];exact(h.has t.id).2 ⟨i,t,ht,hi,rfl,hp⟩,by rw[e2,aeo hq];exact h.at' i t ht hi hp⟩
  | some q =>
   have ho:=c.cov.tw _ _ hx q hq
   have hz:(x,aaf M.L q)∈Z M.L:=(afy c.inv.full).2 ⟨q,ho,rfl⟩
   have:=s2 _ hz (by rw[w.id];exact hp)
   rw[w.id] at this
   refine⟨fun hs=>?_,fun hs=>?_⟩
   ·have hg:=(ac4 hq).1 ((hS i hi).1 hs)
    obtain⟨e1,e2⟩:=this.1 hg
    exact⟨e1,by rw[e2,aep hq hg]⟩
   ·refine this.2 ?_
    have:¬aa0 M.L (toA (ad i)):=fun hw=>by
     have:=(hS i hi).2 hw
     rw[hs] at this
     cases this
    rw[ac4 hq] at this
    exact Classical.not_not.1 this
 refine⟨h.rep.coll c hS,by rw[acz];exact lw,by rw[acz];exact lk,kn,fun i u hu=>?_,?_,s1,fun a=>?_,fun i u hu hh hp=>?_,?_,fun u hu=>?_,fun u hu d hd=>?_,fun u hu=>?_⟩
 ·obtain⟨t,ht,rfl⟩:=adq hu
  rw[tk]
  exact h.ids i t ht
 ·have:=tk T.length
  rw[List.take_of_length_le (by rw[acz];exact Nat.le_refl _),List.take_length] at this
  rw[hl,this]
  exact h.last
 ·constructor
  ·intro ha
   have ha0:0<a:=by
    refine Classical.byContradiction fun q=>?_
    have h0:Maps.has D (.int .i64 a)=false:=by
     cases hd:Maps.has D (.int .i64 a) with
     | false=>rfl
     | true =>
      obtain⟨_,_,_,_,_,k⟩:=(h.has a).1 hd
      exact absurd k q
    rw[s4 a (by omega) h0] at ha
    cases ha
   by_cases hin:∃p∈Z M.L,p.1.id=a
   ·obtain⟨p,hp,e⟩:=hin
    obtain⟨q,hq1,hq2⟩:=(afy (x:=p.1) (a:=p.2) c.inv.full).1 hp
    obtain⟨b,b1,b2⟩:=c.cov.fr q _ hq1
    obtain⟨i,hi,rfl⟩:=h.rep.sur _ _ b2
    obtain⟨t,ht⟩:=h.rep.th hi
    obtain⟨x,hx,w⟩:=h.rep.obj i t ht hi
    rw[b2] at hx
    cases hx
    have et:t.id=a:=by rw[←w.id];exact e
    obtain⟨k1,k2⟩:=key i t ht hi (by omega)
    cases hSi:S i with
    | true=>exact⟨i,_,agj ht,ab8.2 ⟨hi,hSi⟩,et,ha0⟩
    | false =>
     have:=k2 hSi
     rw[et,ha] at this
     cases this
   ·have hno:∀p∈Z M.L,p.1.id≠a:=fun p hp e=>hin ⟨p,hp,e⟩
    rw[(s3 a hno).1] at ha
    obtain⟨i,t,ht,hi,et,_⟩:=(h.has a).1 ha
    obtain⟨k1,k2⟩:=key i t ht hi (by omega)
    cases hSi:S i with
    | true=>exact⟨i,_,agj ht,ab8.2 ⟨hi,hSi⟩,et,ha0⟩
    | false =>
     have:=k2 hSi
     rw[et,(s3 a hno).1,ha] at this
     cases this
  ·rintro ⟨i,u,hu,hh,e,ha0⟩
   obtain⟨t,ht,rfl⟩:=adq hu
   obtain⟨h1,h2⟩:=ab8.1 hh
   have e:t.id=a:=e
   have:=((key i t ht h1 (by omega)).1 h2).1
   rw[e] at this
   exact this
 ·obtain⟨t,ht,rfl⟩:=adq hu
  obtain⟨h1,h2⟩:=ab8.1 hh
  exact((key i t ht h1 hp).1 h2).2
 ·refine⟨fun z hz=>?_,by rw[hn];exact List.nodup_nil,fun j y hy=>?_,fun j y hy v hv h4 ⟨i,hi,_⟩=>?_⟩
  ·rw[hn] at hz;cases hz
  ·rw[c.nO] at hy
   rw[hm y (List.mem_of_getElem? hy),hn]
   simp
  ·rw[c.nY] at hi
   cases hi
 ·obtain⟨i,hi⟩:=List.getElem?_of_mem hu
  obtain⟨t,ht,rfl⟩:=adq hi
  exact h.kd t (List.mem_of_getElem? ht)
 ·obtain⟨i,hi⟩:=List.getElem?_of_mem hu
  obtain⟨t,ht,rfl⟩:=adq hi
  rw[acz]
  exact h.cs t (List.mem_of_getElem? ht) d hd
 ·obtain⟨i,hi⟩:=List.getElem?_of_mem hu
  obtain⟨t,ht,rfl⟩:=adq hi
  exact h.sz t (List.mem_of_getElem? ht)
end
end Go.Proofs.YtpnghfghdbijlaaGreatDoor
