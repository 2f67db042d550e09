/- A part. -/
import Derived.Test.YtpnghfghdbijlaaGreatDoorM24
open Go.Proofs.Tryz
namespace Go.Proofs.YtpnghfghdbijlaaGreatDoor
open Go.RowKit
set_option linter.unusedVariables false
set_option linter.unusedSimpArgs false
set_option maxRecDepth 100000
set_option maxHeartbeats 40000000
section
open Go.RowKit Go.Maps
theorem aox {α:Type} {a b:List α} (h:a.length=b.length) {i:Nat} (hi:a[i]?=b[i]?):aax a b i=aax a b (i+1):=by
 apply List.ext_getElem?
 intro j
 rw[ac9 h,ac9 h]
 by_cases hj:j<i
 ·rw[if_pos hj,if_pos (by omega)]
 ·rw[if_neg hj]
  by_cases e:j=i
  ·subst e
   rw[if_pos (by omega),hi]
  ·rw[if_neg (by omega)]
def atV (D:DataW Unit) (x:Int):Int:=match D.atKey (.int .i64 x) (.lit (.int .i64 0)) with
 | .lit (.int _ v)=>v
 | _=>0
def kf (s:ZS) (here2:List Bool) (rs:List Nat) (q:Nat):Bool:=decide (q∈rs)||(match s.T[q]? with | some t=>decide (0<t.id)&&(here2[q]?).getD false | none=>false)
def wf (s:ZS) (D2:DataW Unit) (ad2:Nat→Int) (rs:List Nat) (q:Nat):HV:=if q∈rs then toA (ad2 q) else toA (match s.T[q]? with | some t=>atV D2 t.id | none=>0)
def abh (s:ZS) (here2:List Bool) (rs:List Nat):List Bool:=(List.range s.T.length).map (kf s here2 rs)
def wh2 (s:ZS) (D2:DataW Unit) (ad2:Nat→Int) (rs:List Nat):List HV:=(List.range s.T.length).map (wf s D2 ad2 rs)
def XwI (xw:List Value) (s:ZS) (D2:DataW Unit) (ad2:Nat→Int) (rs:List Nat) (j:Nat):Prop:=∀q,q<s.T.length→(q<j∨q∈rs)→∀c,c<3→xw[q*3+c]?=(aaw (wf s D2 ad2 rs q))[c]?
theorem Pc.told {s:ZS} {P2:PHp} {D2:DataW Unit} {here2:List Bool} {ad2:Nat→Int} {rs:List Nat} {S:Nat→Bool} (p:Pc s P2 D2 here2 ad2 rs S) {q:Nat} {t:Th} (ht:s.T[q]?=some t) {hq:Bool} (hh:here2[q]?=some hq) (hp:0<t.id):Maps.has D2 (.int .i64 t.id)=hq∧(hq=true→atV D2 t.id=ad2 q):=by
 have z:=p.zi0
 have ht2:=agj (here':=here2) ht
 cases hq with
 | true =>
  refine⟨(z.has _).2 ⟨q,_,ht2,hh,rfl,hp⟩,fun _=>?_⟩
  have:=z.at' q _ ht2 hh hp
  have this:D2.atKey (.int .i64 t.id) (.lit (.int .i64 0))=.lit (.int .i64 (ad2 q)):=this
  unfold atV
  rw[this]
 | false =>
  refine⟨?_,fun e=>(by cases e)⟩
  cases hd:Maps.has D2 (.int .i64 t.id) with
  | false=>rfl
  | true =>
   obtain⟨i,u,hu,hi,eu,_⟩:=(z.has _).1 hd
   have:=ahy z.ids hu ht2 eu (by rw[eu];exact hp)
   subst this
   rw[hh] at hi
   cases hi
theorem Pc.end' {s:ZS} {P2:PHp} {D2:DataW Unit} {here2:List Bool} {ad2:Nat→Int} {rs:List Nat} {S:Nat→Bool} (p:Pc s P2 D2 here2 ad2 rs S):Zi P2 D2 (abk s.T here2) (wh2 s D2 ad2 rs) here2 (abh s here2 rs) ad2:=by
 refine p.zi _ _ (by simp[wh2]) (by simp[abh]) (fun i hi=>?_)
 unfold abh at hi
 rw[List.getElem?_map] at hi
 cases hr:(List.range s.T.length)[i]? with
 | none=>rw[hr] at hi;cases hi
 | some q =>
  have hl:=(List.getElem?_eq_some_iff.1 hr).1
  rw[List.length_range] at hl
  have hq:q=i:=by
   rw[List.getElem?_range hl] at hr
   cases hr
   rfl
  subst hq
  rw[hr] at hi
  have hi:kf s here2 rs q=true:=by simpa using hi
  have hw:(wh2 s D2 ad2 rs)[q]?=some (wf s D2 ad2 rs q):=by
   unfold wh2
   rw[List.getElem?_map,hr]
   rfl
  rw[hw]
  unfold wf
  by_cases hm:q∈rs
  ·rw[if_pos hm]
   exact⟨p.rt q hm,rfl⟩
  ·rw[if_neg hm]
   unfold kf at hi
   rw[decide_eq_false hm,Bool.false_or,List.getElem?_eq_getElem hl] at hi
   simp only[Bool.and_eq_true,decide_eq_true_eq] at hi
   have hh:here2[q]?=some true:=by
    cases e:here2[q]? with
    | none=>rw[e] at hi;cases hi.2
    | some b=>rw[e] at hi;simpa using hi.2
   have:=(p.told (List.getElem?_eq_getElem hl) hh hi.1).2 rfl
   rw[List.getElem?_eq_getElem hl]
   exact⟨hh,by rw[←this]⟩
theorem xw_end {xw:List Value} {s:ZS} {D2:DataW Unit} {ad2:Nat→Int} {rs:List Nat} (h:XwI xw s D2 ad2 rs s.T.length) (hl:xw.length=s.T.length*3):xw=(wh2 s D2 ad2 rs).flatMap aaw:=by
 apply List.ext_getElem?
 intro i
 have hwl:(wh2 s D2 ad2 rs).length=s.T.length:=by simp[wh2]
 by_cases hi:i<s.T.length*3
 ·have e:i=i / 3*3+i % 3:=by omega
  have hq:(wh2 s D2 ad2 rs)[i / 3]?=some (wf s D2 ad2 rs (i / 3)):=by
   unfold wh2
   rw[List.getElem?_map,List.getElem?_range (by omega)]
   rfl
  rw[e,h (i / 3) (by omega) (Or.inl (by omega)) (i % 3) (by omega),ac6 hq (by omega)]
 ·rw[List.getElem?_eq_none (by omega),List.getElem?_eq_none (by rw[adf,hwl];omega)]
theorem XwI.step {xw:List Value} {s:ZS} {D2:DataW Unit} {ad2:Nat→Int} {rs:List Nat} {j:Nat} (h:XwI xw s D2 ad2 rs j) {t:Th} (ht:s.T[j]?=some t) (hm:j ∉ rs) (hl:xw.length=s.T.length*3):XwI (((xw.set (j*3) (.int .i64 4)).set (j*3+1) (.int .i64 (atV D2 t.id))).set (j*3+2) (.string ⟨#[]⟩)) s D2 ad2 rs (j+1):=by
 have hj:=(List.getElem?_eq_some_iff.1 ht).1
 intro q hq hor cc hcc
 by_cases e:q=j
 ·subst e
  unfold wf
  rw[if_neg hm,ht]
  match cc,hcc with
  | 0,_ =>
   rw[List.getElem?_set_ne (by omega),List.getElem?_set_ne (by omega),Nat.add_zero,List.getElem?_set_self (by omega)]
   rfl
  | 1,_ =>
   rw[List.getElem?_set_ne (by omega),List.getElem?_set_self (by rw[List.length_set];omega)]
   rfl
  | 2,_ =>
   rw[List.getElem?_set_self (by rw[List.length_set,List.length_set];omega)]
   rfl
 ·rw[List.getElem?_set_ne (by omega),List.getElem?_set_ne (by omega),List.getElem?_set_ne (by omega)]
  exact h q hq (hor.imp (fun x=>by omega) id) cc hcc
theorem aqk {B k:Nat} {w wx:World} {zb:Nat} {m m2:ZM} {s:ZS} (h0:ZAt B k w zb m s) (hhp:m2.hp=m.hp) {P2:PHp} {D2:DataW Unit} {here2:List Bool} {ad2:Nat→Int} {rs:List Nat} {S:Nat→Bool} {xw:List Value} {N:ZN} (p:Pc s P2 D2 here2 ad2 rs S) (fw:Few' (k+1) P2 s.T m2.n) (hN:N=aau P2) (hX:XwI xw s D2 ad2 rs s.T.length) (z:Zk B w wx zb m2 P2 D2 N (abk s.T here2) s.T.length xw here2 (abh s here2 rs)):ZNext B (k+1) zb w wx:=by
 have hl:xw.length=s.T.length*3:=z.zr.wr.1
 have e:=xw_end hX hl
 have hw:(wh2 s D2 ad2 rs).length=s.T.length:=by simp[wh2]
 refine⟨m2,⟨P2,D2,abk s.T here2,wh2 s D2 ad2 rs,here2,abh s here2 rs,ad2⟩,⟨z.hg,?_,p.end',?_⟩,z.bl,h0.zr.hp0 z.zr hhp⟩
 ·have:=z.zr
  rw[e,hN] at this
  show ZQ B wx zb m2 (aau P2) (abk s.T here2) (wh2 s D2 ad2 rs).length _ _ _
  rw[hw]
  exact this
 ·exact⟨fw.k60,by show (abk s.T here2).length≤_;rw[acz];exact fw.t,fw.c,fw.f,fw.y,fw.o,fw.n,fw.nt,fw.rm⟩
theorem aoy {B:Nat} {w X:World} {zb bz:Nat} {m2:ZM} {s:ZS} {P2:PHp} {D2:DataW Unit} {here2:List Bool} {ad2:Nat→Int} {rs:List Nat} {S:Nat→Bool} {xw:List Value} {N:ZN} {nw:Nat} {kn:List Bool} (p:Pc s P2 D2 here2 ad2 rs S) (hl:s.T.length≤60) (z:Zk B w X zb m2 P2 D2 N (abk s.T here2) nw xw here2 kn) (hb:X.cell? ⟨bz,0,none⟩=some (.pointer (some ⟨zb,0,none⟩))) :
  Calls prog 36 #[.func (.func 41) #[] #[],.pointer (some ⟨bz,0,none⟩)] X fun e w'=>e=.returned (.int .i64 (P2.O.length+(zg P2.O).length:Nat))∧w'=X:=by
 have z0:=p.end'
 have lT:(abk s.T here2).length=s.T.length:=acz _ _
 obtain⟨g1,c1,h1⟩:=aaa z.zr.th
 obtain⟨g2,c2,h2⟩:=aaa z.zr.hr
 have e:=z0.rep.cells z.hg.small
 rw[p.nY] at e
 have e:abe (fun _=>true) 0 here2 ((abk s.T here2).map Th.is)=P2.O.length+(zg P2.O).length:=by
  rw[e]
  simp[zg]
 rw[←e]
 exact am5 (z.zr.zcAt hb z0.rep.len h1 h2) (fun L hL=>by
  obtain⟨t,ht,rfl⟩:=List.mem_map.1 hL
  have:=z0.sz t ht
  omega) (by rw[List.length_map];omega) (fun i _=>in3_any)
theorem col_end {B k:Nat} {w X:World} {zb:Nat} {m m2:ZM} {s:ZS} (h0:ZAt B k w zb m s) (hhp:m2.hp=m.hp) {P2:PHp} {D2:DataW Unit} {here2:List Bool} {ad2:Nat→Int} {rs:List Nat} {S:Nat→Bool} {xw:List Value} (p:Pc s P2 D2 here2 ad2 rs S) (fw:Few' (k+1) P2 s.T m2.n) (rr:P2.ro=s.P.ro∧P2.ry=s.P.ry) (hX:XwI xw s D2 ad2 rs s.T.length) (z:Zk B w X zb m2 P2 D2 { aau s.P with mn:=P2.minors,mj:=P2.majors } (abk s.T here2) s.T.length xw here2 (abh s here2 rs)) :
  ZNext B (k+1) zb w ((X.setCell ⟨zb,7,none⟩ (.int .i64 0)).setCell ⟨zb,8,none⟩ (.int .i64 (P2.O.length+(zg P2.O).length:Nat))):=by
 have z1:=z.num (N':={ aau s.P with mn:=P2.minors,mj:=P2.majors,top:=0 }) 7 (.int .i64 0) rfl
 have z2:=z1.num (N':={ aau s.P with mn:=P2.minors,mj:=P2.majors,top:=0,old:=((P2.O.length+(zg P2.O).length:Nat):Int) }) 8 (.int .i64 (P2.O.length+(zg P2.O).length:Nat)) rfl
 refine aqk h0 hhp p fw ?_ hX z2
 unfold aau
 rw[p.nY,rr.1,rr.2]
 rfl
end
end Go.Proofs.YtpnghfghdbijlaaGreatDoor
