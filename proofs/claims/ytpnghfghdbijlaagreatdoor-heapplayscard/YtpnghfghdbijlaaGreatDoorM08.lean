/- A part. -/
import Derived.Test.YtpnghfghdbijlaaGreatDoorM07
open Go.Proofs.Tryz
namespace Go.Proofs.YtpnghfghdbijlaaGreatDoor
open Go.RowKit
set_option linter.unusedVariables false
set_option linter.unusedSimpArgs false
set_option maxRecDepth 100000
set_option maxHeartbeats 40000000
section
open Go.RowKit Go.Maps
theorem ac3:Keyed prog 3:=int_keyed underlying3
theorem abu {w:World} {k c mb:Nat} {v:Value} {es:Array MapEntry} {cl:Nat} (h:w.cell? ⟨k,c,none⟩=some v) (hm:w.heap[mb]?=some (.map es cl)):k≠mb:=by
 rintro rfl
 simp[World.cell?,hm] at h
theorem al7 {w:World} {B:Nat} {e:TypeId} {k:Nat} {v:Value} {n:Nat} {xs:List Value} (h:w.ownsRow B e k v n xs) {j mb:Nat} (hj:v.ownBlock=some j) {es:Array MapEntry} {cl:Nat} (hm:w.heap[mb]?=some (.map es cl)):j≠mb:=by
 rintro rfl
 obtain⟨cs,fr,hc⟩:=zu h hj
 rw[hc] at hm
 cases hm
theorem LvAt.grown {B:Nat} {w w':World} {b:Lv} {p:PL} (h:LvAt B w b p) {mb:Nat} (hg:w.grownBy w' (some mb)) {es:Array MapEntry} {cl:Nat} (hm:w.heap[mb]?=some (.map es cl)):LvAt B w' b p:=by
 have keep:∀k,k<w.heap.size→k≠mb→w'.heap[k]?=w.heap[k]?:=fun k hk hne=>hg.block k hk (fun e=>hne (Option.some.inj e))
 have wn:b.wb≠mb:=by
  rintro e
  have:=h.wn
  rw[e,hm] at this
  cases this
 exact h.other (keep _ (ze h.c0) (abu h.c0 hm)) (keep _ (hlt h.wn) wn) (fun c _=>World.cell?_of_block (keep b.pb (ze (a:=⟨b.pb,b.po,none⟩) h.f0) (abu h.f0 hm))) (fun j hj=>keep j (zu h.pt.objs hj).lt (al7 h.pt.objs hj hm)) (fun j hj=>keep j (zu h.pt.flds hj).lt (al7 h.pt.flds hj hm))
structure StAt (w:World) (m:Mb) (M:MS) (vto vtf:Value) (hp mb lb2:Nat) (b0:Lv) (p0:PL) (l:List (Option (Nat×Nat×HV))) (n:Nat) (D:DataW Unit):Prop where
 h9:w.cell? ⟨hp,9,none⟩=some (.map (some mb))
 own:w.ownsMap prog 3 (plainElem prog 3) mb n D
 mo:Out m vto vtf w mb
 mr:¬acr l mb
 lo:Out m vto vtf w lb2
 lr:¬acr l lb2
 ll:∀(j:Nat) (b:Lv),m.ls[j]?=some b→w.cell? ⟨lb2,j,none⟩=some (.pointer (some ⟨b.l,0,none⟩))
 hd:(hp=m.tb∧m.tp=3)∨Out m vto vtf w hp
 hr:¬acr l hp
 hz:∃cs T',w.heap[hp]?=some (.cells cs T' (0,0))∧12<cs.size
 hn:hp=m.tb→12<m.n
 yb:m.ls[0]?=some b0
 yl:M.L[0]?=some p0
 yp:b0.pb=hp∧b0.po=0
def amw (B:Nat) (m:Mb) (M:MS) (T:TypeId) (vto vtf:Value) (g:Option Addr) (l:List (Option (Nat×Nat×HV))) (hp mb n:Nat) (p0:PL) (D:DataW Unit) (w w':World):Prop :=
 ∃(wl:World) (cs':Array Value) (vto' vtf':Value) (hcs:Array Value) (T':TypeId) (n':Nat),RtNow M wl g l l.length∧FrS (acr l) m vto vtf w wl∧MvAt B wl m M cs' T vto' vtf'∧(vto'.ownBlock=vto.ownBlock∨∀j,vto'.ownBlock=some j→w.heap.size≤j)∧(vtf'.ownBlock=vtf.ownBlock∨∀j,vtf'.ownBlock=some j→w.heap.size≤j) ∧
  wl.heap[hp]?=some (.cells hcs T' (0,0))∧12<hcs.size∧w'.ownsMap prog 3 (plainElem prog 3) mb n' (abb D M.L)∧n'≤n+(M.L.map fun p=>p.objs.length).sum ∧
  w'.heap[hp]?=some (.cells ((((hcs.setIfInBounds 0 (.int .i64 (p0.first+2*p0.objs.length))).setIfInBounds 1 (.slice none 0 0)).setIfInBounds 2 (.slice none 0 0)).setIfInBounds 8 (.slice none 0 0)) T' (0,0)) ∧
  (∀k,k<wl.heap.size→k≠mb→k≠hp→w'.heap[k]?=wl.heap[k]?)∧wl.heap.size≤w'.heap.size∧w'.os=wl.os∧w'.tape=wl.tape∧w'.output=wl.output
def abo (L:List PL):Nat:=(L.map fun p=>p.objs.length).sum
theorem air {L:List PL} {j:Nat} {p:PL} (h:L[j]?=some p):abo (L.take j)+p.objs.length=abo (L.take (j+1)):=by
 unfold abo
 rw[List.take_add_one,h]
 simp
theorem akw (L:List PL) (j:Nat):abo (L.take j)≤abo L:=by
 have h:abo L=abo (L.take j)+abo (L.drop j):=by
  unfold abo
  rw[←List.sum_append,←List.map_append,List.take_append_drop]
 omega
theorem alv {D:DataW Unit} {L:List PL} {j:Nat} {p:PL} (h:L[j]?=some p):abb D (L.take (j+1))=age (abb D (L.take j)) p:=by
 unfold abb
 rw[List.take_add_one,h]
 simp
def agw (D:DataW Unit) (p:PL) (i:Nat):DataW Unit:=((p.objs.zip p.went).take i).foldl (fun D z=>abg D z.1 z.2) D
theorem amx {D:DataW Unit} {p:PL} {i:Nat} {x:HO} {a:Int} (hx:p.objs[i]?=some x) (ha:p.went[i]?=some a):agw D p (i+1)=abg (agw D p i) x a:=by
 have hz:(p.objs.zip p.went)[i]?=some (x,a):=by rw[List.getElem?_zip_eq_some];exact⟨hx,ha⟩
 unfold agw
 rw[List.take_add_one,hz]
 simp
theorem an2 {D:DataW Unit} {p:PL} (h:p.went.length=p.objs.length):agw D p p.objs.length=age D p:=by
 unfold agw age
 rw[List.take_of_length_le (by simp[h])]
theorem adj {n:Int} (h:I64 n):(Lit.int .i64 n).wf=true:=by
 obtain⟨h1,h2⟩:=h
 simp only[Lit.wf,IntKind.min,IntKind.max,IntKind.signed,IntKind.bits,Bool.and_eq_true,decide_eq_true_eq,if_true]
 constructor <;> omega
theorem afa {B:Nat} {w:World} {m:Mb} {M:MS} {cs:Array Value} {T:TypeId} {vto vtf:Value} (h:MvAt B w m M cs T vto vtf) (hc:Cap M) {k0 s:Nat} (hi:MInv k0 s M) (hto:agv M) {g:Option Addr} {l:List (Option (Nat×Nat×HV))} (hr:RtAt w g l) (hf:RtFit m vto vtf w g l) (hn:∀rb ro v,some (rb,ro,v)∈l→I64 v.n) (hwn:∀rb ro v,some (rb,ro,v)∈l→aa0 M.L v) (hl:l.length≤1000000000) (cap:Nat)
  {hp mb lb2 c2 n:Nat} {b0:Lv} {p0:PL} {D:DataW Unit} (st:StAt w m M vto vtf hp mb lb2 b0 p0 l n D) (hids:∀q x,aak M.L q=some x→I64 x.id) (hcnt:n+abo M.L≤1000000000) :
  Calls prog 55 #[.pointer (some ⟨hp,0,none⟩),.pointer (some ⟨m.mv,0,none⟩),.slice g l.length cap,.slice (some ⟨lb2,0,none⟩) m.ls.length c2] w fun e w'=>e=.returned (.tuple #[])∧amw B m M T vto vtf g l hp mb n p0 D w w':=by
 have H:=zc h
 have HC:=zc hc
 have HI:=zc hi
 have HTO:=zc hto
 have HF:=zc hf
 have HN:=zc hn
 have HWN:=zc hwn
 have HST:=zc st
 have HR0:Hid (RtNow M w g l 0):=⟨hr.at',fun rb ro v hv=>by rw[apm];exact hr.val rb ro v hv,hf.fz⟩
 have HR00:=zc hr.val
 have HIDS:=zc hids
 have HCNT:=zc hcnt
 clear h hc hi hto hr hf hn hwn st hids hcnt
 go_enter func55,ntmps55
 go_wp2_with fail
 go_loopg [16] l.length (fun gg iv wr=>∃(k:Nat),k≤l.length∧gg=l.length-k∧iv=.int .i64 k∧Hid (RtNow M wr g l k∧FrS (acr l) m vto vtf w wr∧∃cs' vto' vtf',MvAt B wr m M cs' T vto' vtf'∧(vto'.ownBlock=vto.ownBlock∨∀j,vto'.ownBlock=some j→w.heap.size≤j)∧(vtf'.ownBlock=vtf.ownBlock∨∀j,vtf'.ownBlock=some j→w.heap.size≤j)))
 case atStart=>exact⟨0,Nat.zero_le _,rfl,rfl,za HR0,FrS.refl _ _ _ _ _,cs,vto,vtf,za H,Or.inl rfl,Or.inl rfl⟩
 case round =>
  obtain⟨k,hk,rfl,rfl,HY⟩:=hrel
  obtain⟨hR,hF,cs',vto',vtf',hM,e1,e2⟩:=za HY
  have HRk:=zc hR
  have HFk:=zc hF
  have HMk:=zc hM
  have HE1:=zc e1
  have HE2:=zc e2
  by_cases hlt:k<l.length
  ·have hx:l[k]?=some (l[k]'hlt):=List.getElem?_eq_getElem _
   generalize (l[k]'hlt)=r at *
   obtain⟨gb,go,hgg,c0⟩:=hR.at' k r hx
   subst hgg
   have hk2:(k:Int)<(l.length:Int):=by omega
   have HX:=zc hx
   cases r with
   | none =>
    clear hR hF hM e1 e2 hx
    go_wp2_with fail
    go_roundg (l.length-(k+1))
    case measure=>omega
    case rel=>exact⟨k+1,by omega,rfl,by go_num,⟨(za HRk).at',fun rb ro v hv=>by rw[apn M (za HX)];exact(za HRk).val rb ro v hv,(za HRk).fz⟩,za HFk,cs',vto',vtf',za HMk,za HE1,za HE2⟩
   | some z =>
    obtain⟨rb,ro,v⟩:=z
    have hmem:some (rb,ro,v)∈l:=List.mem_of_getElem? hx
    obtain⟨v0,v1,v2⟩:=hR.val rb ro v hmem
    have c0':wr.cell? ⟨gb,go+k,none⟩=some (.pointer (some ⟨rb,ro,none⟩)):=c0
    have hu:=now_or M l k rb ro v
    have hpp:=phi_phi (za HI) (za HTO) v
    have hw0:=za HWN rb ro v hmem
    have hwu:aa0 M.L (abi M l k rb ro v):=by
     rcases hu with e | e
     ·rw[e];exact hw0
     ·rw[e];exact hpp.2 hw0
    have hpu:phi M.L (abi M l k rb ro v)=phi M.L v:=by
     rcases hu with e | e
     ·rw[e]
     ·rw[e];exact hpp.1
    have hnu:I64 (abi M l k rb ro v).n:=by
     rcases hu with e | e
     ·rw[e];exact za HN rb ro v hmem
     ·rw[e]
      have:=((za HC).move (za HI) (za HN rb ro v hmem)).2
      rw[ajy hw0] at this
      exact this
    have hmv:aaj M (abi M l k rb ro v)=(M,phi M.L v):=by rw[ajy hwu,hpu]
    generalize abi M l k rb ro v=u at *
    have HNU:=zc hnu
    have HMV:=zc hmv
    have HMEM:=zc hmem
    have HSAME:Hid (∀v',some (rb,ro,v')∈l→v'=v):=fun v' hv'=>by
     have q1:=za HR00 rb ro v hmem
     have q2:=za HR00 rb ro v' hv'
     obtain⟨p0,p1,p2⟩:=q1
     obtain⟨r0,r1,r2⟩:=q2
     rw[p0] at r0
     rw[p1] at r1
     rw[p2] at r2
     cases v;cases v'
     simp only[Option.some.injEq,Value.int.injEq,Value.string.injEq,true_and] at r0 r1 r2
     simp[r0,r1,r2]
    clear hR hF hM e1 e2 hx c0 hu hpp hw0 hwu hpu hnu hmv hmem
    go_wp2_with fail
    refine(ahc (za HMk) (za HC) u (za HNU)).mono ?_
    rw[za HMV]
    rintro e w1 ⟨rfl,hF1,cs1,vto1,vtf1,hM1,a1,a2⟩
    have hout:=((za HF).out.v' rb ro v (za HMEM)).later (za HFk).size (za HE1) (za HE2)
    have hsb:=hout.same hF1
    obtain⟨rc,hrc⟩:=(za HRk).fz rb ro v (za HMEM)
    have hrc1:=hsb.trans hrc
    have b0:=(World.cell?_of_block (a:=⟨rb,ro,none⟩) hsb).trans v0
    have b1:=fun q=>aas (v:=q) (i:=ro) ((World.cell?_of_block (a:=⟨rb,ro+1,none⟩) hsb).trans v1) (by omega)
    have b2:=fun q q'=>aap (v:=q) (v':=q') (i:=ro) (i':=ro+1) ((World.cell?_of_block (a:=⟨rb,ro+2,none⟩) hsb).trans v2) (by omega) (by omega)
    have z0:=zt hrc1 ro
    have z1:=zt hrc1 (ro+1)
    have z2:=zt hrc1 (ro+2)
    have HF1:=zc hF1
    have HM1:=zc hM1
    have HA1:=zc a1
    have HA2:=zc a2
    have HO1:=zc hout
    have HRC1:=zc hrc1
    clear hF1 hM1 a1 a2 hout hsb hrc hrc1 v0 v1 v2 c0'
    go_wp2_with fail
    have o1:=aa4 (za HE1) (za HA1) (za HFk).size
    have o2:=aa4 (za HE2) (za HA2) (za HFk).size
    have hRk1:RtNow M w1 (some ⟨gb,go,none⟩) l k:=by
     refine⟨fun j r hj=>?_,fun rb' ro' v' hv'=>?_,fun rb' ro' v' hv'=>?_⟩
     ·obtain⟨gb',go',e,hc'⟩:=(za HRk).at' j r hj
      have:=((za HF).out.g' gb' go' e (by have:=(List.getElem?_eq_some_iff.1 hj).1;omega)).later (za HFk).size (za HE1) (za HE2)
      exact⟨gb',go',e,(World.cell?_of_block (this.same (za HF1))).trans hc'⟩
     ·have:=(((za HF).out.v' rb' ro' v' hv').later (za HFk).size (za HE1) (za HE2)).same (za HF1)
      obtain⟨q0,q1,q2⟩:=(za HRk).val rb' ro' v' hv'
      exact⟨(World.cell?_of_block this).trans q0,(World.cell?_of_block this).trans q1,(World.cell?_of_block this).trans q2⟩
     ·have:=(((za HF).out.v' rb' ro' v' hv').later (za HFk).size (za HE1) (za HE2)).same (za HF1)
      obtain⟨q,hq⟩:=(za HRk).fz rb' ro' v' hv'
      exact⟨q,this.trans hq⟩
    have hgt:∀gb' go',(some (⟨gb,go,none⟩:Addr))=some ⟨gb',go',none⟩→gb'≠rb:=fun gb' go' e=>((za HF).gt gb' go' e (by omega)).ne ((za HF).ty rb ro v (za HMEM)) (by decide)
    have HNX:=zc (hRk1.step (za HX) (za HF).ap hgt (fun v' hv'=>by rw[za HSAME v' hv']))
    have HMX:=zc ((za HM1).except (fun q=>q=rb) (w':=(((w1.setCell ⟨rb,ro,none⟩ (.int .i64 (phi M.L v).kind)).setCell ⟨rb,ro+1,none⟩ (.int .i64 (phi M.L v).n)).setCell ⟨rb,ro+2,none⟩ (.string (phi M.L v).s))) (by simp[World.setCell]) (fun q _ hq=>by rw[zo _ hq,zo _ hq,zo _ hq]) (fun q hq=>by rw[hq];exact⟨_,_,za HRC1⟩)
     (fun j hj e=>((za HO1).later (za HF1).size (za HA1) (za HA2)).2.2.2.2 (e ▸ hj)) (fun b hb j hj e=>(za HF).bf b hb rb ro v (za HMEM) (e ▸ hj)))
    have HFX:=zc (((za HFk).move (za HF1) (za HE1) (za HE2)).set3 (r:=rb) (a:=ro) (b:=ro+1) (c:=ro+2) ⟨ro,v,za HMEM⟩ (.int .i64 (phi M.L v).kind) (.int .i64 (phi M.L v).n) (.string (phi M.L v).s))
    go_roundg (l.length-(k+1))
    case measure=>omega
    case rel=>exact⟨k+1,by omega,rfl,by go_num,za HNX,za HFX,cs1,vto1,vtf1,za HMX,o1,o2⟩
  ·obtain rfl:k=l.length:=by omega
   have hff:decide ((l.length:Int)<(l.length:Int))=false:=by simp
   have HL1:=zc hF
   have own0:wr.ownsMap prog 3 (plainElem prog 3) mb n D:=by
    obtain⟨es,cl,hb,rest⟩:=(za HST).own
    exact⟨es,cl,(hF.block mb (za HST).mo (za HST).mr).trans hb,rest⟩
   have q9:wr.cell? ⟨hp,9,none⟩=some (.map (some mb)):=by
    rcases(za HST).hd with ⟨e1,e2⟩ | e
    ·have hh:=hF.head (by rw[←e1];exact(za HST).hr) 9 (by omega)
     rw[←e1] at hh
     exact hh.trans (za HST).h9
    ·exact(World.cell?_of_block (hF.block hp e (za HST).hr)).trans (za HST).h9
   have qll:∀(j:Nat) (b:Lv),m.ls[j]?=some b→wr.cell? ⟨lb2,j,none⟩=some (.pointer (some ⟨b.l,0,none⟩)):=fun j b hj=>(World.cell?_of_block (hF.block lb2 (za HST).lo (za HST).lr)).trans ((za HST).ll j b hj)
   have HOWN:=zc own0
   have H9:=zc q9
   have HLL:=zc qll
   have HLEN:=zc hM.fr.len
   have HFEW:=zc hM.fr.few
   clear hlt hk hR hF hM e1 e2 own0 q9 qll HY
   go_wp2_with fail
   rename World=>wl
   go_loopg [32] m.ls.length (fun gg iv wx=>∃(j:Nat),j≤m.ls.length∧gg=m.ls.length-j∧iv=.int .i64 j∧Hid (wl.grownBy wx (some mb)∧∃n',wx.ownsMap prog 3 (plainElem prog 3) mb n' (abb D (M.L.take j))∧n'≤n+abo (M.L.take j)))
   case atStart=>exact⟨0,Nat.zero_le _,rfl,rfl,⟨rfl,rfl,rfl,Nat.le_refl _,fun _ _ _=>rfl⟩,n,za HOWN,by simp⟩
   case round =>
    obtain⟨j,hj,rfl,rfl,HZ⟩:=hrel
    by_cases hlj:j<m.ls.length
    ·have hbj:m.ls[j]?=some (m.ls[j]'hlj):=List.getElem?_eq_getElem _
     have hpj:M.L[j]?=some (M.L[j]'(by have:=za HLEN;omega)):=List.getElem?_eq_getElem _
     generalize (m.ls[j]'hlj)=b at *
     generalize (M.L[j]'(by have:=za HLEN;omega))=p at *
     obtain⟨es0,cl0,hmb0,_⟩:=za HOWN
     have lv0:=(za HMk).fr.lvs j b p hbj hpj
     have HLV0:=zc lv0
     have hg1:=(za HZ).1
     have lv1:=lv0.grown hg1 hmb0
     have d0:wr.cell? ⟨lb2,j,none⟩=some (.pointer (some ⟨b.l,0,none⟩)):=by
      have q:=za HLL j b hbj
      exact(World.cell?_of_block (hg1.block lb2 (ze (a:=⟨lb2,j,none⟩) q) (fun e=>abu q hmb0 (Option.some.inj e)))).trans q
     have d1:=lv1.c0
     obtain⟨gv,cv,hvo⟩:=aaa lv1.pt.objs
     have d2:=lv1.pt.c1
     rw[hvo] at d2
     have hj2:(j:Int)<(m.ls.length:Int):=by omega
     have hfe:=za HFEW
     have HHM:=zc hmb0
     have HBJ:=zc hbj
     have HPJ:=zc hpj
     have HVO:=zc hvo
     clear lv0 lv1 hg1 hvo hbj hpj hmb0
     go_wp2_with fail
     clear d0 d1 d2
     rename World=>wj
     go_loopg [44] p.objs.length (fun gg iv wy=>∃(i:Nat),i≤p.objs.length∧gg=p.objs.length-i∧iv=.int .i64 i∧Hid (wl.grownBy wy (some mb)∧∃n',wy.ownsMap prog 3 (plainElem prog 3) mb n' (agw (abb D (M.L.take j)) p i)∧n'≤n+abo (M.L.take j)+i))
     case atStart=>exact⟨0,Nat.zero_le _,rfl,rfl,(za HZ).1,by obtain⟨n',a,b⟩:=(za HZ).2;exact⟨n',a,by omega⟩⟩
     case round =>
      obtain⟨i,hi,rfl,rfl,HV⟩:=hrel
      by_cases hli:i<p.objs.length
      ·have hx:p.objs[i]?=some (p.objs[i]'hli):=List.getElem?_eq_getElem _
       have ha:p.went[i]?=some (p.went[i]'(by rw[(za HLV0).full];exact hli)):=List.getElem?_eq_getElem _
       generalize (p.objs[i]'hli)=x at *
       generalize (p.went[i]'(by rw[(za HLV0).full];exact hli))=a at *
       have hg2:=(za HV).1
       have lv2:=(za HLV0).grown hg2 (za HHM)
       obtain⟨gO,cO,hvo2,o0,o1,o2,o3,o4,o5⟩:=lv2.pt.obj hx
       have hvv:=(za HVO).symm.trans hvo2
       cases hvv
       have hob:aak M.L (j,i)=some x:=by simp[aak,za HPJ,hx]
       have hgn:aaf M.L (j,i)=a:=by simp[aaf,za HPJ,ha]
       have hid:=za HIDS (j,i) x hob
       have haI:I64 a:=by
        by_cases e:a=0
        ·rw[e];exact⟨by omega,by omega⟩
        ·obtain⟨t,t1,t2,t3⟩:=(za HI).conv (j,i) (by rw[hgn];exact e)
         have:=adl M
         have:=(za HC).top
         have:=(za HC).ft
         rw[←hgn,t3]
         exact I64.of_small (by omega) (by omega)
       obtain⟨wz,hwz⟩:∃wz,wr.alloc (.cells #[.int .i64 x.kind,.int .i64 x.tag,.int .i64 x.id,.int .i64 (zm p.objs i),.int .i64 x.fs.length,.bool x.noted] 61)=wz:=⟨_,rfl⟩
       have hbz:Below wr.heap.size wr wz:=by rw[←hwz];exact(Below.refl _ _).alloc (Nat.le_refl _) _
       have hkz:wz.heap[wr.heap.size]?=some (.cells #[.int .i64 x.kind,.int .i64 x.tag,.int .i64 x.id,.int .i64 (zm p.objs i),.int .i64 x.fs.length,.bool x.noted] 61 (0,0)):=by rw[←hwz];exact aan _ _
       have lv3:=lv2.keep hbz
       have y2:wz.cell? ⟨wr.heap.size,2,none⟩=some (.int .i64 x.id):=zd hkz 2
       have f1:=lv3.c1
       have f2:wz.cell? ⟨b.wb,i,none⟩=some (.int .i64 a):=by
        rw[zd lv3.wn]
        simp[ha,iv]
       have hgz:wl.grownBy wz (some mb):=⟨hbz.os.trans hg2.os,hbz.tape.trans hg2.tape,hbz.output.trans hg2.output,Nat.le_trans hg2.size hbz.size,fun k hk hne=>(hbz.block k (Nat.lt_of_lt_of_le hk hg2.size)).trans (hg2.block k hk hne)⟩
       obtain⟨n',hown,hnn⟩:=(za HV).2
       have hownz:wz.ownsMap prog 3 (plainElem prog 3) mb n' (agw (abb D (M.L.take j)) p i):=by rw[←hwz];exact hown.alloc _
       have q9:wz.cell? ⟨hp,9,none⟩=some (.map (some mb)):=(World.cell?_of_block (hgz.block hp (ze (a:=⟨hp,9,none⟩) (za H9)) (fun e=>abu (za H9) (za HHM) (Option.some.inj e)))).trans (za H9)
       have hsum:=air (za HPJ)
       have htk:=akw M.L (j+1)
       have hi2:(i:Int)<(p.objs.length:Int):=by omega
       have hpl:p.objs.length≤1000000000:=by have:=za HCNT;omega
       have hmx:n'<maxLen:=by have:=za HCNT;unfold maxLen;omega
       have HGZ:=zc hgz
       have HOZ:=zc hownz
       have HST2:=zc (amx (D:=abb D (M.L.take j)) hx ha)
       have HNN:=zc hnn
       have HID:=zc hid
       have HAI:=zc haI
       have HMX:=zc hmx
       clear hx ha hg2 lv2 hvo2 hob hgn hid haI hbz hkz lv3 hgz hown hownz hnn hsum htk hmx HVO
       by_cases hz:a=0
       ·subst hz
        have hbz0:((0:Int)==0)=true:=rfl
        obtain⟨wd,hrun,howd,htd⟩:=(za HOZ).drew.drop ac3 underlying48 (keyOf_int_mk underlying3 (adj (za HID))) 0
        have HOD:=zc howd
        have HTD:=zc htd
        have hgd:=htd.grown
        have hmz:∃es cl,wz.heap[mb]?=some (.map es cl):=by obtain⟨es,cl,hb,_⟩:=za HOZ;exact⟨es,cl,hb⟩
        obtain⟨es9,cl9,hm9⟩:=hmz
        have u9:wd.cell? ⟨hp,9,none⟩=some (.map (some mb)):=(World.cell?_of_block (hgd.block hp (ze (a:=⟨hp,9,none⟩) q9) (fun e=>abu q9 hm9 (Option.some.inj e)))).trans q9
        have u2:wd.cell? ⟨wr.heap.size,2,none⟩=some (.int .i64 x.id):=(World.cell?_of_block (hgd.block wr.heap.size (ze (a:=⟨wr.heap.size,2,none⟩) y2) (fun e=>abu y2 hm9 (Option.some.inj e)))).trans y2
        clear howd htd hgd hm9
        go_wp2_with fail
        go_region_held3 (fun w'=>w'.cell? ⟨hp,9,none⟩=some (.map (some mb))∧w'.cell? ⟨wr.heap.size,2,none⟩=some (.int .i64 x.id)) (go_keep) (fail)
        all_goals
         go_wp2_with fail
         have hgx:wl.grownBy wd (some mb):=by
          have q:=(za HTD).grown
          exact⟨q.os.trans (za HGZ).os,q.tape.trans (za HGZ).tape,q.output.trans (za HGZ).output,Nat.le_trans (za HGZ).size q.size,fun k hk hne=>(q.block k (Nat.lt_of_lt_of_le hk (za HGZ).size) hne).trans ((za HGZ).block k hk hne)⟩
         go_roundg (p.objs.length-(i+1))
         case measure=>omega
         case rel=>exact⟨i+1,by omega,rfl,by go_num,hgx,n',by rw[za HST2,abg,if_pos rfl];exact za HOD,by have:=za HNN;omega⟩
       ·have hbz0:(a==0)=false:=by rw[beq_eq_false_iff_ne];exact hz
        have HZ0:=zc hz
        by_cases hid0:0<x.id
        ·obtain⟨wd,hrun,howd,htd⟩:=(za HOZ).drew.store ac3 underlying48 (za HMX) (keyOf_int_mk underlying3 (adj (za HID))) (plainElem_int underlying3 (adj (za HAI)))
         have HOD:=zc howd
         have HTD:=zc htd
         have hgd:=htd.grown
         have hmz:∃es cl,wz.heap[mb]?=some (.map es cl):=by obtain⟨es,cl,hb,_⟩:=za HOZ;exact⟨es,cl,hb⟩
         obtain⟨es9,cl9,hm9⟩:=hmz
         have u9:wd.cell? ⟨hp,9,none⟩=some (.map (some mb)):=(World.cell?_of_block (hgd.block hp (ze (a:=⟨hp,9,none⟩) q9) (fun e=>abu q9 hm9 (Option.some.inj e)))).trans q9
         have u2:wd.cell? ⟨wr.heap.size,2,none⟩=some (.int .i64 x.id):=(World.cell?_of_block (hgd.block wr.heap.size (ze (a:=⟨wr.heap.size,2,none⟩) y2) (fun e=>abu y2 hm9 (Option.some.inj e)))).trans y2
         have u3:=(World.cell?_of_block (hgd.block b.l (ze (a:=⟨b.l,1,none⟩) f1) (fun e=>abu f1 hm9 (Option.some.inj e)))).trans f1
         have u4:=(World.cell?_of_block (hgd.block b.wb (ze (a:=⟨b.wb,i,none⟩) f2) (fun e=>abu f2 hm9 (Option.some.inj e)))).trans f2
         clear howd htd hgd hm9
         go_wp2_with fail
         go_region_held3 (fun w'=>w'.cell? ⟨hp,9,none⟩=some (.map (some mb))∧w'.cell? ⟨wr.heap.size,2,none⟩=some (.int .i64 x.id)∧w'.cell? ⟨b.l,1,none⟩=some (.slice (some ⟨b.wb,0,none⟩) p.objs.length p.objs.length)∧w'.cell? ⟨b.wb,i,none⟩=some (.int .i64 a)) (go_keep) (fail)
         all_goals
          go_wp2_with fail
          have hgx:wl.grownBy wd (some mb):=by
           have q:=(za HTD).grown
           exact⟨q.os.trans (za HGZ).os,q.tape.trans (za HGZ).tape,q.output.trans (za HGZ).output,Nat.le_trans (za HGZ).size q.size,fun k hk hne=>(q.block k (Nat.lt_of_lt_of_le hk (za HGZ).size) hne).trans ((za HGZ).block k hk hne)⟩
          go_roundg (p.objs.length-(i+1))
          case measure=>omega
          case rel=>exact⟨i+1,by omega,rfl,by go_num,hgx,n'+1,by rw[za HST2,abg,if_neg (za HZ0),if_pos hid0];exact za HOD,by have:=za HNN;omega⟩
        ·go_wp2_with fail
         go_roundg (p.objs.length-(i+1))
         case measure=>omega
         case rel=>exact⟨i+1,by omega,rfl,by go_num,za HGZ,n',by rw[za HST2,abg,if_neg (za HZ0),if_neg (by omega)];exact za HOZ,by have:=za HNN;omega⟩
      ·obtain rfl:i=p.objs.length:=by omega
       have hff3:decide ((p.objs.length:Int)<(p.objs.length:Int))=false:=by simp
       have hpl:m.ls.length≤1000:=hfe
       clear hli hi
       go_wp2_with fail
       go_roundg (m.ls.length-(j+1))
       case measure=>omega
       case rel =>
        obtain⟨a1,n',a2,a3⟩:=za HV
        refine⟨j+1,by omega,rfl,by go_num,a1,n',?_,?_⟩
        ·rw[alv (za HPJ),←an2 (za HLV0).full]
         exact a2
        ·rw[←air (za HPJ)]
         omega
    ·obtain rfl:j=m.ls.length:=by omega
     have hff2:decide ((m.ls.length:Int)<(m.ls.length:Int))=false:=by simp
     obtain⟨es0,cl0,hmb0,_⟩:=za HOWN
     obtain⟨a1,n',a2,a3⟩:=za HZ
     have lv0:=(za HMk).fr.lvs 0 b0 p0 (za HST).yb (za HST).yl
     have lv1:=lv0.grown a1 hmb0
     have hpb:=(za HST).yp
     obtain⟨hcs,T',hhp,hhs⟩:∃hcs T',wl.heap[hp]?=some (.cells hcs T' (0,0))∧12<hcs.size:=by
      rcases(za HST).hd with ⟨e1,_⟩ | e
      ·rw[e1]
       exact⟨_,_,(za HMk).tpart.blk,by rw[(za HMk).szn];exact(za HST).hn e1⟩
      ·obtain⟨c9,t9,q1,q2⟩:=(za HST).hz
       exact⟨c9,t9,((za HL1).block hp e (za HST).hr).trans q1,q2⟩
     have hne:hp≠mb:=by
      rintro e
      rw[e,hmb0] at hhp
      cases hhp
     have hhp1:wr.heap[hp]?=some (.cells hcs T' (0,0)):=(a1.block hp (hlt hhp) (fun e=>hne (Option.some.inj e))).trans hhp
     have HHP1:=zc hhp1
     have HHP:=zc hhp
     have HA1:=zc a1
     have HA2:=zc a2
     have HA3:=zc a3
     have HNE:=zc hne
     have HPT:=zc lv1.pt
     have HF0:=zc lv1.f0
     have HLO:=zc lv1.lo
     have HHI:=zc lv1.hi
     rw[hpb.1,hpb.2] at HPT HF0
     clear a1 a2 a3 lv0 lv1 hpb hhp hne hhp1 hmb0 hlj hj HZ
     go_wp2_with fail
     refine(aca (za HPT) (za HF0) (za HLO) (za HHI)).mono ?_
     rintro e w9 ⟨rfl,hb9⟩
     have hh9:w9.heap[hp]?=some (.cells hcs T' (0,0)):=(hb9.block hp (hlt (za HHP1))).trans (za HHP1)
     have gt:∀c,c<12→∃u,w9.cell? ⟨hp,c,none⟩=some u:=fun c hc=>⟨_,(zd hh9 c).trans (Array.getElem?_eq_getElem (by omega))⟩
     obtain⟨x0,c0⟩:=gt 0 (by omega)
     obtain⟨x1,c1⟩:=gt 1 (by omega)
     obtain⟨x2,c2'⟩:=gt 2 (by omega)
     obtain⟨x8,c8⟩:=gt 8 (by omega)
     have c1':=fun q=>aas (v:=q) (i:=0) c1 (by decide)
     have c2'':=fun q q'=>aap (v:=q) (v':=q') (i:=0) (i':=1) c2' (by decide) (by decide)
     have c8':=fun q q' q''=>aas (v:=q'') (i:=2) (aap (v:=q) (v':=q') (i:=0) (i':=1) c8 (by decide) (by decide)) (by decide)
     have z0:=zt hh9 0
     have z1:=zt hh9 1
     have z2:=zt hh9 2
     have z8:=zt hh9 8
     have HB9:=zc hb9
     have HH9:=zc hh9
     clear hb9 hh9 gt c1 c2' c8
     go_wp2_with fail
     go_end0
     have oth:∀k,k≠hp→((((w9.setCell ⟨hp,0,none⟩ (.int .i64 (p0.first+2*(p0.objs.length:Int)))).setCell ⟨hp,1,none⟩ (.slice none 0 0)).setCell ⟨hp,2,none⟩ (.slice none 0 0)).setCell ⟨hp,8,none⟩ (.slice none 0 0)).heap[k]?=w9.heap[k]?:=fun k hk=>by rw[zo _ hk,zo _ hk,zo _ hk,zo _ hk]
     have htk:M.L.take m.ls.length=M.L:=List.take_of_length_le (by have:=za HLEN;omega)
     refine⟨rfl,wl,cs',vto',vtf',hcs,T',n',za HRk,za HFk,za HMk,za HE1,za HE2,za HHP,hhs,?_,?_,aad (aad (aad (aad (za HH9) _ _) _ _) _ _) _ _,fun k hk h1 h2=>?_,?_,?_,?_,?_⟩
     ·obtain⟨es,cl,hb,rest⟩:=za HA2
      rw[htk] at rest
      exact⟨es,cl,(oth mb (Ne.symm (za HNE))).trans (((za HB9).block mb (hlt hb)).trans hb),rest⟩
     ·have:=za HA3
      rw[htk] at this
      exact this
     ·rw[oth k h2,(za HB9).block k (Nat.lt_of_lt_of_le hk (za HA1).size)]
      exact(za HA1).block k hk (fun e=>h1 (Option.some.inj e))
     ·have:=Nat.le_trans (za HA1).size (za HB9).size
      simpa [World.setCell] using this
     ·exact(za HB9).os.trans (za HA1).os
     ·exact(za HB9).tape.trans (za HA1).tape
     ·exact(za HB9).output.trans (za HA1).output
end
section
open Go.RowKit Go.Maps
def Fresh (L:List PL):Prop:=∀p∈L,p.went=List.replicate p.objs.length 0
theorem Fresh.full {L:List PL} (h:Fresh L):Full L:=fun p hp=>by rw[h p hp];simp
theorem Fresh.gone {L:List PL} (h:Fresh L) (q:Nat×Nat):aaf L q=0:=by
 unfold aaf
 cases hL:L[q.1]? with
 | none=>rfl
 | some p =>
  show ((p.went)[q.2]?).getD 0=0
  rw[h p (List.mem_of_getElem? hL),List.getElem?_replicate]
  split <;> rfl
theorem MInv.start {M:MS} (h:Fresh M.L) (hft:0<M.ft):MInv M.T.length (zg M.T).length M :=
 ⟨h.full,hft,Nat.le_refl _,Nat.le_refl _,fun q hq=>absurd (h.gone q) hq,fun q q' hq=>absurd (h.gone q) hq,fun t y ht hy=>by
  have:=(List.getElem?_eq_some_iff.1 hy).1
  omega,fun t q x k v ht htl=>by omega⟩
theorem al8 (f:HO→Nat):∀l:List HO,((l.zip (List.replicate l.length (0:Int))).map fun z=>if z.2=0 then f z.1 else 0).sum=(l.map f).sum
 | []=>rfl
 | x :: r=>by
  have:=al8 f r
  simp only[List.length_cons,List.replicate_succ,List.zip_cons_cons,List.map_cons,List.sum_cons,if_true,this]
theorem acd (f:HO→Nat):∀{L:List PL},Fresh L→adt f L=(L.map fun p=>(p.objs.map f).sum).sum
 | [],_=>rfl
 | p :: r,h=>by
  have h1:=acd f (L:=r) (fun q hq=>h q (List.mem_cons_of_mem _ hq))
  unfold adt at *
  simp only[List.map_cons,List.sum_cons,h1]
  rw[h p (List.mem_cons_self ..),al8]
theorem ais (l:List HO):(l.map fun x=>x.fs.length).sum=(zg l).length:=by
 induction l with
 | nil=>rfl
 | cons x r ih=>simp only[List.map_cons,List.sum_cons,ih,zg,List.flatMap_cons,List.length_append]
theorem agf:∀l:List HO,(l.map fun _=>1).sum=l.length
 | []=>rfl
 | x :: r=>by
  rw[List.map_cons,List.sum_cons,agf r,List.length_cons]
  omega
theorem Cap.rest:∀(f:Nat) {k0 s:Nat} {M:MS},Cap M→MInv k0 s M→Cap (aai f M s)
 | 0,_,_,_,h,_=>h
 | f+1,k0,s,M,h,hi=>by
  rw[aai]
  split
  ·rename_i hlt
   exact Cap.rest f (h.field hi s) (hi.field hlt).1
  ·exact h
theorem Cap.roots {k0 s:Nat}:∀(l:List HV) {M:MS},Cap M→MInv k0 s M→(∀v∈l,I64 v.n)→Cap (zv M l)
 | [],_,h,_,_=>h
 | v :: l,_,h,hi,hn=>Cap.roots l (h.move hi (hn v (List.mem_cons_self ..))).1 (hi.move v).1 (fun u hu=>hn u (List.mem_cons_of_mem _ hu))
end
section
open Go.RowKit Go.Maps
structure HpG (B:Nat) (w:World) (hp mb:Nat) (P:PHp) (D:DataW Unit) (n:Nat) (vyo vyf voo vof vn:Value):Prop where
 at':HpAt B w hp mb P vyo vyf voo vof vn
 own:w.ownsMap prog 3 (plainElem prog 3) mb n D
 ao:∀j,vyo.ownBlock=some j→voo.ownBlock≠some j
 af:∀j,vyf.ownBlock=some j→vof.ownBlock≠some j
 small:Small P
 few:Few P
 two:2≤P.fo
 cnt:P.Y.length+P.O.length+1≤5000000
 pot:(zg P.Y).length+(zg P.O).length≤10000000
 top:P.fo+2*P.O.length+2*(P.Y.length+P.O.length)+2≤4611686018427387904
 vals:∀x∈P.Y++P.O,I64 x.id∧∀v∈x.fs,I64 v.n
 hB:B≤w.heap.size
def zw (P:PHp):MS:=⟨P.fo+2*P.O.length,[],[⟨P.fy,P.Y,List.replicate P.Y.length 0⟩,⟨P.fo,P.O,List.replicate P.O.length 0⟩]⟩
theorem abz (P:PHp):Fresh (zw P).L:=by
 intro p hp
 simp[zw] at hp
 rcases hp with rfl | rfl <;> rfl
theorem aji {B:Nat} {w:World} {hp mb:Nat} {P:PHp} {D:DataW Unit} {n:Nat} {vyo vyf voo vof vn:Value} (h:HpG B w hp mb P D n vyo vyf voo vof vn):Cap (zw P):=by
 have h1:=h.two
 have h2:=h.cnt
 have h3:=h.pot
 have h4:=h.top
 have ec:Go.Proofs.YtpnghfghdbijlaaGreatDoor.cnt (zw P)=P.Y.length+P.O.length:=by
  unfold Go.Proofs.YtpnghfghdbijlaaGreatDoor.cnt
  rw[acd _ (abz P)]
  simp[zw,agf]
 have ep:Go.Proofs.YtpnghfghdbijlaaGreatDoor.pot (zw P)=(zg P.Y).length+(zg P.O).length:=by
  unfold Go.Proofs.YtpnghfghdbijlaaGreatDoor.pot ad9
  rw[acd _ (abz P)]
  simp only[zw,List.map_cons,List.map_nil,List.sum_cons,List.sum_nil,ais]
  simp[zg]
 refine⟨by simp only[zw];omega,by rw[ec];omega,by rw[ec];simp only[zw];omega,by rw[ep];exact h3,(abz P).full,fun v hv=>by simp[zw,zg] at hv,fun q x hq v hv=>?_⟩
 have hx:x∈P.Y++P.O:=by
  unfold aak zw at hq
  obtain⟨i,k⟩:=q
  match i with
  | 0=>exact List.mem_append_left _ (List.mem_of_getElem? (by simpa using hq))
  | 1=>exact List.mem_append_right _ (List.mem_of_getElem? (by simpa using hq))
  | i+2=>simp at hq
 exact(h.vals x hx).2 v hv
theorem ajj {B:Nat} {w:World} {hp mb:Nat} {P:PHp} {D:DataW Unit} {n:Nat} {vyo vyf voo vof vn:Value} (h:HpG B w hp mb P D n vyo vyf voo vof vn) (t:Nat):aab (zw P).L 0 ((zw P).ft+2*t)=none:=by
 have h1:=h.small.yo
 have h2:=h.small.oe
 simp only[zw,aab]
 rw[aeu (fun i hi=>by omega)]
 simp only
 rw[aeu (fun i hi=>by omega)]
end
section
open Go.RowKit Go.Maps
def aao (P:PHp) (a:Int):Option HO :=
 match acf P.fy P.Y.length a with
 | some i=>P.Y[i]?
 | none=>match acf P.fo P.O.length a with
  | some i=>P.O[i]?
  | none=>none
theorem ab6 {f:Int} {n:Nat} {a:Int} (h:∀i:Nat,i<n→a≠f+2*i):acf f n a=none:=by
 cases q:acf f n a with
 | none=>rfl
 | some i=>exact absurd (aa3.1 q).2 (h i (aa3.1 q).1)
theorem amy {P:PHp} {a:Int} {r:Option (Bool×Nat)} (hs:Small P) (h:Found P a r):(aa5 P r).map Prod.snd=aao P a:=by
 have h1:=hs.yo
 have h2:=hs.oe
 cases r,h using Found.parts with
 | young i hi e =>
  unfold aao
  rw[aa3.2 ⟨hi,e⟩]
  simp[aa5,List.getElem?_eq_getElem hi]
 | old i hi e =>
  unfold aao
  rw[ab6 (fun k hk=>by omega),aa3.2 ⟨hi,e⟩]
  simp[aa5,List.getElem?_eq_getElem hi]
 | none hy ho =>
  unfold aao
  rw[ab6 hy,ab6 ho]
  rfl
def aev (g:HV→List Int→Option (List Int×List Int)):List HV→List Int→Option (List Int×List Int)
 | [],seen=>some ([],seen)
 | v :: r,seen=>match g v seen with
  | none=>none
  | some a=>match aev g r a.2 with
   | none=>none
   | some b=>some (a.1++b.1,b.2)
def shp (P:PHp):Nat→HV→List Int→Option (List Int×List Int)
 | 0,_,_=>none
 | f+1,v,seen =>
  if v.kind≠4 then some ([v.kind,v.n,v.s.size],seen) else
  match aao P v.n with
  | none=>none
  | some x=>if x.id∈seen then some ([-x.id],seen) else
   match aev (shp P f) x.fs (x.id :: seen) with
   | none=>none
   | some r=>some ([x.id,x.kind,x.tag,(x.fs.length:Int)]++r.1,r.2)
structure Sim (P P':PHp) (ph:HV→HV) (G:HV→Prop):Prop where
 kind:∀v,(ph v).kind=v.kind∧(v.kind≠4→ph v=v)
 obj:∀v x,G v→v.kind=4→aao P v.n=some x→∃x',aao P' (ph v).n=some x'∧x'.id=x.id∧x'.kind=x.kind∧x'.tag=x.tag∧x'.fs=x.fs.map ph∧∀u∈x.fs,G u
theorem akx {g g':HV→List Int→Option (List Int×List Int)} {ph:HV→HV} {G:HV→Prop} (h:∀v seen r,G v→g v seen=some r→g' (ph v) seen=some r):∀(l:List HV) (seen:List Int) (r:List Int×List Int),(∀u∈l,G u)→aev g l seen=some r→aev g' (l.map ph) seen=some r
 | [],seen,r,_,e=>e
 | v :: l,seen,r,hG,e=>by
  rw[aev] at e
  rw[List.map_cons,aev]
  cases h1:g v seen with
  | none=>rw[h1] at e;cases e
  | some a =>
   rw[h1] at e
   rw[h v seen a (hG v (List.mem_cons_self ..)) h1]
   simp only at e ⊢
   cases h2:aev g l a.2 with
   | none=>rw[h2] at e;cases e
   | some b =>
    rw[h2] at e
    rw[akx h l a.2 b (fun u hu=>hG u (List.mem_cons_of_mem _ hu)) h2]
    exact e
theorem Sim.shape {P P':PHp} {ph:HV→HV} {G:HV→Prop} (h:Sim P P' ph G):∀(f:Nat) (v:HV) (seen:List Int) (r:List Int×List Int),G v→shp P f v seen=some r→shp P' f (ph v) seen=some r
 | 0,_,_,_,_,e=>by cases e
 | f+1,v,seen,r,hG,e=>by
  rw[shp] at e
  rw[shp,(h.kind v).1]
  by_cases hk:v.kind≠4
  ·rw[if_pos hk] at e
   rw[if_pos hk,(h.kind v).2 hk]
   exact e
  ·rw[if_neg hk] at e
   rw[if_neg hk]
   cases hx:aao P v.n with
   | none=>rw[hx] at e;cases e
   | some x =>
    rw[hx] at e
    obtain⟨x',q1,q2,q3,q4,q5,q6⟩:=h.obj v x hG (by simpa using hk) hx
    rw[q1]
    simp only at e ⊢
    rw[q2,q3,q4]
    by_cases hs:x.id∈seen
    ·rw[if_pos hs] at e ⊢
     exact e
    ·rw[if_neg hs] at e ⊢
     cases hw:aev (shp P f) x.fs (x.id :: seen) with
     | none=>rw[hw] at e;cases e
     | some b =>
      rw[hw] at e
      rw[q5,akx (fun v s r=>Sim.shape h f v s r) x.fs _ b q6 hw,List.length_map]
      exact e
def aci (l:List HO) (seen:List Int):Nat:=(l.map fun x=>if x.id∈seen then 0 else 4+3*x.fs.length).sum
def adw (P:PHp) (v:HV):Prop:=v.kind=4→∃x,aao P v.n=some x
def ahv (P:PHp) (seen:List Int) (r:List Int×List Int):Prop :=
 (∀a∈seen,a∈r.2)∧(seen.Nodup→r.2.Nodup)∧(∀a∈r.2,a∈seen∨∃x∈P.Y++P.O,x.id=a) ∧
 (∀b x,aao P b=some x→x.id∈r.2→x.id ∉ seen→∀u∈x.fs,u.kind=4→∀y,aao P u.n=some y→y.id∈r.2)
def Uniq (P:PHp):Prop:=∀a b x y,aao P a=some x→aao P b=some y→x.id=y.id→x=y
def Tied (P:PHp):Prop:=∀x∈P.Y++P.O,∀u∈x.fs,adw P u
end
section
open Go.RowKit Go.Maps
def aae (P:PHp):MS:=⟨P.fo,P.O,[⟨P.fy,P.Y,List.replicate P.Y.length 0⟩]⟩
theorem acu (P:PHp):Fresh (aae P).L:=by
 intro p hp
 simp[aae] at hp
 subst hp
 rfl
theorem HpG.keep {B:Nat} {w w':World} {hp mb:Nat} {P:PHp} {D:DataW Unit} {n:Nat} {vyo vyf voo vof vn:Value} (h:HpG B w hp mb P D n vyo vyf voo vof vn) (hb:Below w.heap.size w w'):HpG B w' hp mb P D n vyo vyf voo vof vn:=by
 obtain⟨a,⟨es,cl,h1,h2⟩,c,d,e,f,g,i,j,k,l,m⟩:=h
 exact⟨a.keep hb,⟨es,cl,(hb.block mb (hlt h1)).trans h1,h2⟩,c,d,e,f,g,i,j,k,l,Nat.le_trans m hb.size⟩
theorem ama {B:Nat} {w:World} {hp mb:Nat} {P:PHp} {D:DataW Unit} {n:Nat} {vyo vyf voo vof vn:Value} (h:HpG B w hp mb P D n vyo vyf voo vof vn):Cap (aae P):=by
 have h1:=h.two
 have h2:=h.cnt
 have h3:=h.pot
 have h4:=h.top
 have ec:Go.Proofs.YtpnghfghdbijlaaGreatDoor.cnt (aae P)=P.O.length+P.Y.length:=by
  unfold Go.Proofs.YtpnghfghdbijlaaGreatDoor.cnt
  rw[acd _ (acu P)]
  simp[aae,agf]
 have ep:Go.Proofs.YtpnghfghdbijlaaGreatDoor.pot (aae P)=(zg P.O).length+(zg P.Y).length:=by
  unfold Go.Proofs.YtpnghfghdbijlaaGreatDoor.pot ad9
  rw[acd _ (acu P)]
  simp only[aae,List.map_cons,List.map_nil,List.sum_cons,List.sum_nil,ais]
  omega
 refine⟨by simp only[aae];omega,by rw[ec];omega,by rw[ec];simp only[aae];omega,by rw[ep];omega,(acu P).full,fun v hv=>?_,fun q x hq v hv=>?_⟩
 ·have hv:v∈zg P.O:=hv
  unfold zg at hv
  obtain⟨x,hx,hvx⟩:=List.mem_flatMap.1 hv
  exact(h.vals x (List.mem_append_right _ hx)).2 v hvx
 ·have hx:x∈P.Y++P.O:=by
   unfold aak aae at hq
   obtain⟨i,k⟩:=q
   match i with
   | 0=>exact List.mem_append_left _ (List.mem_of_getElem? (by simpa using hq))
   | i+1=>simp at hq
  exact(h.vals x hx).2 v hv
theorem amb {B:Nat} {w:World} {hp mb:Nat} {P:PHp} {D:DataW Unit} {n:Nat} {vyo vyf voo vof vn:Value} (h:HpG B w hp mb P D n vyo vyf voo vof vn) (t:Nat):aab (aae P).L 0 ((aae P).ft+2*t)=none:=by
 have h1:=h.small.yo
 have h2:=h.small.oe
 simp only[aae,aab]
 rw[aeu (fun i hi=>by omega)]
def afm (w0:World) (hp n:Nat):World:=ae2 ((ab9 w0 hp 0 n).alloc (.cells #[.pointer (some ⟨w0.heap.size+1,0,none⟩)] 108)) hp 3 (w0.heap.size+2) 1 1
def aa6 (w0:World) (hp:Nat) (vyo vyf:Value):Mb:=⟨w0.heap.size+4,w0.heap.size+3,w0.heap.size+2,1,hp,3,13,[⟨w0.heap.size+1,hp,0,w0.heap.size,vyo,vyf⟩]⟩
theorem agx (w0:World) (hp n:Nat):Below w0.heap.size w0 (afm w0 hp n):=by
 have h1:=af9 w0 hp 0 n
 have h2:Below w0.heap.size w0 ((ab9 w0 hp 0 n).alloc (.cells #[.pointer (some ⟨w0.heap.size+1,0,none⟩)] 108)):=h1.alloc h1.size _
 exact h2.trans ((adn _ _ _ _ _ _).mono h2.size)
theorem ah7 {B:Nat} {w0:World} {hp mb:Nat} {P:PHp} {D:DataW Unit} {n:Nat} {vyo vyf voo vof vn:Value} (h:HpG B w0 hp mb P D n vyo vyf voo vof vn) :
  MvAt B (afm w0 hp P.Y.length) (aa6 w0 hp vyo vyf) (aae P) (zx P vyo vyf voo vof vn mb) 51 voo vof:=by
 have hb:=agx w0 hp P.Y.length
 have hk:=(h.keep hb).at'
 have s1:=agu w0 hp 0 P.Y.length
 have z2:((ab9 w0 hp 0 P.Y.length).alloc (.cells #[.pointer (some ⟨w0.heap.size+1,0,none⟩)] 108)).heap.size=w0.heap.size+3:=by simp[s1]
 have b1:Below (ab9 w0 hp 0 P.Y.length).heap.size (ab9 w0 hp 0 P.Y.length) (afm w0 hp P.Y.length):=by
  have q:Below (ab9 w0 hp 0 P.Y.length).heap.size (ab9 w0 hp 0 P.Y.length) ((ab9 w0 hp 0 P.Y.length).alloc (.cells #[.pointer (some ⟨w0.heap.size+1,0,none⟩)] 108)):=(Below.refl _ _).alloc (Nat.le_refl _) _
  exact q.trans ((adn _ _ _ _ _ _).mono q.size)
 have kfb:(afm w0 hp P.Y.length).heap[w0.heap.size+3]?=some (.cells #[.slice (some ⟨w0.heap.size+2,0,none⟩) 1 1] 121 (0,0)):=by
  have:=ajw ((ab9 w0 hp 0 P.Y.length).alloc (.cells #[.pointer (some ⟨w0.heap.size+1,0,none⟩)] 108)) hp 3 (w0.heap.size+2) 1 1
  rw[z2] at this
  exact this
 have kmv:(afm w0 hp P.Y.length).heap[w0.heap.size+4]?=some (.cells #[.pointer (some ⟨hp,3,none⟩),.func (.func 62) #[] #[.pointer (some ⟨w0.heap.size+3,0,none⟩)]] 124 (0,0)):=by
  have:=ajx ((ab9 w0 hp 0 P.Y.length).alloc (.cells #[.pointer (some ⟨w0.heap.size+1,0,none⟩)] 108)) hp 3 (w0.heap.size+2) 1 1
  rw[z2] at this
  exact this
 have klb:(afm w0 hp P.Y.length).heap[w0.heap.size+2]?=some (.cells #[.pointer (some ⟨w0.heap.size+1,0,none⟩)] 108 (0,0)):=by
  have q:=aan (ab9 w0 hp 0 P.Y.length) (.cells #[.pointer (some ⟨w0.heap.size+1,0,none⟩)] 108)
  rw[s1] at q
  exact((adn _ hp 3 (w0.heap.size+2) 1 1).block (w0.heap.size+2) (by rw[z2];omega)).trans q
 have lv:LvAt B (afm w0 hp P.Y.length) ⟨w0.heap.size+1,hp,0,w0.heap.size,vyo,vyf⟩ ⟨P.fy,P.Y,List.replicate P.Y.length 0⟩:=apl (h.at'.young h.few) (zd h.at'.blk 0) h.small.y0 h.small.y1 b1
 have hcn:=h.cnt
 refine⟨zd kmv 0,zd kmv 1,⟨zd kfb 0,fun j b hj=>?_,rfl,by simp[aa6],fun j b p hj hp'=>?_⟩,⟨hk.blk,rfl,rfl,rfl,hk.oo,hk.of',h.few.o,by simp only[aae];omega,by decide,by decide⟩,by simp[aa6,zx],Nat.le_trans h.hB hb.size,Or.inl rfl,⟨_,_,kmv⟩,⟨_,_,kfb⟩,⟨_,_,klb⟩,fun b hb'=>?_,fun b hb'=>?_,fun b hb' _=>?_,fun b hb' j hj=>?_,fun b hb' j hj=>?_,fun i j b b' hi hj hne=>?_,rfl⟩
 ·match j with
  | 0=>simp[aa6] at hj;subst hj;exact zd klb 0
  | j+1=>simp[aa6] at hj
 ·match j with
  | 0=>simp[aa6] at hj;simp[aae] at hp';subst hj;subst hp';exact lv
  | j+1=>simp[aa6] at hj
 ·simp[aa6] at hb'
  subst hb'
  exact⟨_,_,(b1.block (w0.heap.size+1) (by rw[s1];omega)).trans (ahu _ _ _ _)⟩
 ·simp[aa6] at hb'
  subst hb'
  exact⟨_,Or.inl rfl,⟨_,_,hk.blk⟩⟩
 ·simp[aa6] at hb'
  subst hb'
  exact Or.inl (by simp[aa6])
 ·simp[aa6] at hb'
  subst hb'
  exact fun e=>h.ao j e hj
 ·simp[aa6] at hb'
  subst hb'
  exact fun e=>h.af j e hj
 ·match i,j with
  | 0,0=>exact absurd rfl hne
  | 0,j+1=>simp[aa6] at hj
  | i+1,_=>simp[aa6] at hi
end
end Go.Proofs.YtpnghfghdbijlaaGreatDoor
