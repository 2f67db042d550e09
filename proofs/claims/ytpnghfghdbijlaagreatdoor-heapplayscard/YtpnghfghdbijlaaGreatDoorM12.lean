/- A part. -/
import Derived.Test.YtpnghfghdbijlaaGreatDoorM11
open Go.Proofs.Tryz
namespace Go.Proofs.YtpnghfghdbijlaaGreatDoor
open Go.RowKit
set_option linter.unusedVariables false
set_option linter.unusedSimpArgs false
set_option maxRecDepth 100000
set_option maxHeartbeats 40000000
section
open Go.RowKit Go.Maps
def aea (P:PHp) (k:Nat) (i:Nat):Prop:=∃(j:Nat) (x:HO),(j:Int)∈P.noted.take k∧P.O[j]?=some x∧zm P.O j≤i∧i<zm P.O j+x.fs.length
def aeb (P:PHp) (k:Nat) (t:Nat):Prop:=(t:Int)∈P.noted.take k
def LpSt (B:Nat) (P:PHp) (m:Mb) (voo vof:Value) (w4:World) (k:Nat) (wx:World):Prop :=
 ∃(Mk:MS) (cs:Array Value) (vt vf:Value),NI P.O (aae P).L P.fo (aea P k) (aeb P k) Mk∧Cap Mk∧MvAt B wx m Mk cs 51 vt vf∧FrM m voo vof w4 wx∧(vt.ownBlock=voo.ownBlock∨∀j,vt.ownBlock=some j→w4.heap.size≤j)∧(vf.ownBlock=vof.ownBlock∨∀j,vf.ownBlock=some j→w4.heap.size≤j)
theorem aoa {P:PHp} {k j i:Nat} {x:HO} (hnd:P.noted.Nodup) (hk:k<P.noted.length) (hj:P.noted[k]=(j:Int)) (hx:P.O[j]?=some x) (hi:i<x.fs.length):¬aea P k (zm P.O j+i):=fun ⟨j2,x2,hm,hx2,h1,h2⟩=>by
 have hne:j2≠j:=fun e=>by
  subst e
  obtain⟨q,hq1,hq2⟩:=List.mem_take_iff_getElem.1 hm
  have hql:q<P.noted.length:=by omega
  exact(List.pairwise_iff_getElem.1 hnd) q k hql hk (by omega) (by rw[hj,hq2])
 rcases Nat.lt_or_gt_of_ne hne with h | h
 ·have:=agr P.O hx2 h
  omega
 ·have:=agr P.O hx h
  omega
theorem am4 {P:PHp} {k j:Nat} {x:HO} (hk:k<P.noted.length) (hj:P.noted[k]=(j:Int)) (hx:P.O[j]?=some x) (q:Nat):(aea P k q∨(zm P.O j≤q∧q<zm P.O j+x.fs.length))↔aea P (k+1) q:=by
 unfold aea
 rw[List.take_succ_eq_append_getElem hk]
 constructor
 ·rintro (⟨j2,x2,hm,h⟩ | h)
  ·exact⟨j2,x2,List.mem_append_left _ hm,h⟩
  ·exact⟨j,x,List.mem_append_right _ (by rw[hj];exact List.mem_singleton.2 rfl),hx,h⟩
 ·rintro ⟨j2,x2,hm,hx2,h⟩
  rcases List.mem_append.1 hm with hm | hm
  ·exact Or.inl ⟨j2,x2,hm,hx2,h⟩
  ·rw[hj,List.mem_singleton] at hm
   have:j2=j:=by omega
   subst this
   rw[hx] at hx2
   cases hx2
   exact Or.inr h
def LpIn (B:Nat) (P:PHp) (m:Mb) (vt vf:Value) (W1:World) (k j:Nat) (i:Nat) (wx:World):Prop :=
 ∃Mi:MS,NI P.O (aae P).L P.fo (fun q=>aea P k q∨(zm P.O j≤q∧q<zm P.O j+i)) (aeb P (k+1)) Mi∧Cap Mi∧MvPost B m Mi 51 vt vf W1 wx
theorem NI.iff {O:List HO} {L0:List PL} {ft:Int} {Z Z' U U':Nat→Prop} {M:MS} (h:NI O L0 ft Z U M) (hz:∀q,q<(zg O).length→(Z q↔Z' q)) (hu:∀q,q<O.length→(U q↔U' q)):NI O L0 ft Z' U' M :=
 ⟨h.inv,h.lat,h.ft,h.hd,fun t x y hx hy=>by
  have ht:=(List.getElem?_eq_some_iff.1 hx).1
  have:=h.nt t x y hx hy
  rw[←hu t ht]
  exact this,fun i v hv=>by
  have hi:=(List.getElem?_eq_some_iff.1 hv).1
  have:=h.fl i v hv
  rw[←hz i hi]
  exact this,fun q hq=>by
  obtain⟨i,v,a1,a2,a3⟩:=h.on q hq
  exact⟨i,v,(hz i (List.getElem?_eq_some_iff.1 a2).1).1 a1,a2,a3⟩⟩
theorem NI.start (P:PHp) (h2:0<P.fo):NI P.O (aae P).L P.fo (aea P 0) (aeb P 0) (aae P) :=
 ⟨MInv.start (M:=aae P) (acu P) h2,Later.refl _,rfl,⟨[],by simp[aae]⟩,fun t x y hx hy=>⟨fun q=>by simp[aeb] at q,fun _=>by
  have hy:P.O[t]?=some y:=hy
  rw[hx] at hy
  cases hy
  rfl⟩,fun i v hv=>⟨fun ⟨_,_,q,_⟩=>by simp at q,fun _=>hv⟩,fun q hq=>absurd ((acu P).gone q) hq⟩
def aob (B:Nat) (P:PHp) (D:DataW Unit) (n hp mb:Nat) (g:Option Addr) (l:List (Option (Nat×Nat×HV))) (voo vof:Value) (w w':World):Prop :=
 ∃(Mk M:MS) (n':Nat) (vto' vtf':Value) (mn:Int),NI P.O (aae P).L P.fo (aea P P.noted.length) (aeb P P.noted.length) Mk∧MInv P.O.length (zg M.T).length M∧Cap M∧Later (aae P).L M.L∧M.ft=P.fo∧aai (Go.Proofs.YtpnghfghdbijlaaGreatDoor.pot (zv Mk (zy l))-(zg P.O).length) (zv Mk (zy l)) (zg P.O).length=M∧(∃r,M.T.map hdr=Mk.T.map hdr++r)∧(∀i,i<(zg P.O).length→(zg M.T)[i]?=(zg Mk.T)[i]?)∧Later Mk.L M.L∧mn=wrap64 (P.minors+1)∧(∀rb ro v,some (rb,ro,v)∈l→aa0 M.L v) ∧
  RtNow M w' g l l.length∧HpAt B w' hp mb (aba P M.T mn) (.slice none 0 0) (.slice none 0 0) vto' vtf' (.slice none 0 0)∧w'.ownsMap prog 3 (plainElem prog 3) mb n' (abb D M.L)∧n'≤n+P.Y.length ∧
  (vto'.ownBlock=voo.ownBlock∨∀j,vto'.ownBlock=some j→w.heap.size≤j)∧(vtf'.ownBlock=vof.ownBlock∨∀j,vtf'.ownBlock=some j→w.heap.size≤j) ∧
  (∀k,k<w.heap.size→k≠hp→k≠mb→voo.ownBlock≠some k→vof.ownBlock≠some k→¬acr l k→w'.heap[k]?=w.heap[k]?)∧w.heap.size≤w'.heap.size∧w'.os=w.os∧w'.tape=w.tape∧w'.output=w.output ∧
  (∀k,k<w.heap.size→k≠hp→k≠mb→voo.ownBlock≠some k→vof.ownBlock≠some k→∀cs t fr,w.heap[k]?=some (.cells cs t fr)→∃cs',w'.heap[k]?=some (.cells cs' t fr)∧cs'.size=cs.size)
theorem aoc {B:Nat} {w:World} {hp mb:Nat} {P:PHp} {D:DataW Unit} {n:Nat} {vyo vyf voo vof vn:Value} (h:HpG B w hp mb P D n vyo vyf voo vof vn) (hnr:∀z∈P.noted,∃j:Nat,z=j∧j<P.O.length) (hnd:P.noted.Nodup) (hnl:P.noted.length≤1000000) {g:Option Addr} {l:List (Option (Nat×Nat×HV))} (hr:RtFree w hp mb vyo vyf voo vof g l) (cap:Nat) (hnn:n≤500000000) (hroom:(P.Y.length+(zg P.Y).length+(P.O.length+(zg P.O).length):Int)≤P.ro) :
  Calls prog 38 #[.pointer (some ⟨hp,0,none⟩),.slice g l.length cap] w fun e w'=>e=.returned .nilIface∧aob B P D n hp mb g l voo vof w w':=by
 have H:=zc h
 have HR:=zc hr
 have HNR:=zc hnr
 have HND:=zc hnd
 have c7:w.cell? ⟨hp,7,none⟩=some (.int .i64 P.ro):=zd h.at'.blk 7
 have hc1:=h.cnt
 have hc2:=h.pot
 have HPY:=zc (h.at'.young h.few)
 have HPO:=zc (h.at'.old h.few)
 obtain⟨cy,hcy⟩:∃cy:Nat,P.Y.length+(zg P.Y).length=cy:=⟨_,rfl⟩
 obtain⟨co,hco⟩:∃co:Nat,P.O.length+(zg P.O).length=co:=⟨_,rfl⟩
 have hroom2:(cy:Int)+(co:Int)≤P.ro:=by omega
 have HCY:Hid (∀X,Below w.heap.size w X→Calls prog 15 #[.pointer (some ⟨hp,0,none⟩)] X fun e w'=>e=.returned (.int .i64 (cy:Int))∧Below X.heap.size X w'):=fun X hX=>by
  have:=abl ((za HPY).keep hX) (by omega)
  rw[hcy] at this
  exact this
 have HCO:Hid (∀X,Below w.heap.size w X→Calls prog 15 #[.pointer (some ⟨hp,3,none⟩)] X fun e w'=>e=.returned (.int .i64 (co:Int))∧Below X.heap.size X w'):=fun X hX=>by
  have:=abl ((za HPO).keep hX) (by omega)
  rw[hco] at this
  exact this
 have hcy2:cy≤20000000:=by omega
 have hco2:co≤20000000:=by omega
 clear h hr hnr hnd hcy hco hc1 hc2 hroom
 have ent0:∀w:World,Sem.run prog (callFunc 15 #[.pointer (some ⟨hp,0,none⟩)]) w=.ok (.enter 15 #[.pointer (some ⟨hp,0,none⟩)]) w:=fun _=>by kernel_rfl
 have ent3:∀w:World,Sem.run prog (callFunc 15 #[.pointer (some ⟨hp,3,none⟩)]) w=.ok (.enter 15 #[.pointer (some ⟨hp,3,none⟩)]) w:=fun _=>by kernel_rfl
 have hwr:IntKind.i64.wrap ((cy:Int)+(co:Int))=(cy:Int)+(co:Int):=aav (by omega) (by omega)
 have hrm:decide (P.ro<(cy:Int)+(co:Int))=false:=by simp;omega
 go_enter func38,ntmps38
 go_wp2_with fail
 refine wp_region_held_drew (S:=fun w'=>w'.cell? ⟨hp,7,none⟩=some (.int .i64 P.ro)) (by kernel_rfl) c7 (fun hHeld=>?_)
 refine wpAnyH_take (i:=0) (oi:={ dst:=some 14,op:=_,type:=_,pos:=_,after:=_,guard:=_ }) (v:=?_) rfl (by kernel_rfl) (by kernel_rfl) (by kernel_rfl) (fun _ _ _ h=>h) (Or.inl ⟨by rfl,?_⟩) (by assumption) ?_
 case refine_2 =>
  intro w hSw
  try dsimp only at hSw
  go_simp
  try with_reducible rfl
 simp only[Act.put,sA,sB,sC]
 refine wpAnyH_take (i:=1) (oi:={ dst:=some 15,op:=_,type:=_,pos:=_,after:=_,guard:=_ }) (v:=?_) rfl (by kernel_rfl) (by kernel_rfl) (by kernel_rfl) (fun _ _ _ h=>h) (Or.inl ⟨by rfl,?_⟩) (by assumption) ?_
 case refine_2 =>
  intro w hSw
  try dsimp only at hSw
  go_simp
  try with_reducible rfl
 simp only[Act.put,sA,sB,sC]
 refine wpAnyH_take (i:=2) (oi:={ dst:=some 16,op:=_,type:=_,pos:=_,after:=_,guard:=_ }) (v:=?_) rfl (by kernel_rfl) (by kernel_rfl) (by kernel_rfl) (fun _ _ _ h=>h) (Or.inl ⟨by rfl,?_⟩) (by assumption) ?_
 case refine_2 =>
  intro w hSw
  try dsimp only at hSw
  go_simp
  try with_reducible rfl
 simp only[Act.put,sA,sB,sC]
 refine wpAnyH_take (i:=4) (oi:={ dst:=some 18,op:=_,type:=_,pos:=_,after:=_,guard:=_ }) (v:=?_) rfl (by kernel_rfl) (by kernel_rfl) (by kernel_rfl) (fun _ _ _ h=>h) (Or.inl ⟨by rfl,?_⟩) (by assumption) ?_
 case refine_2 =>
  intro w hSw
  try dsimp only at hSw
  go_simp
  try with_reducible rfl
 simp only[Act.put,sA,sB,sC]
 refine wpAnyH_take (i:=5) (oi:={ dst:=some 19,op:=_,type:=_,pos:=_,after:=_,guard:=_ }) (v:=?_) rfl (by kernel_rfl) (by kernel_rfl) (by kernel_rfl) (fun _ _ _ h=>h) (Or.inl ⟨by rfl,?_⟩) (by assumption) ?_
 case refine_2 =>
  intro w hSw
  try dsimp only at hSw
  go_simp
  try with_reducible rfl
 simp only[Act.put,sA,sB,sC]
 refine wpAnyH_take (i:=6) (oi:={ dst:=some 20,op:=_,type:=_,pos:=_,after:=_,guard:=_ }) (v:=?_) rfl (by kernel_rfl) (by kernel_rfl) (by kernel_rfl) (fun _ _ _ h=>h) (Or.inl ⟨by rfl,?_⟩) (by assumption) ?_
 case refine_2 =>
  intro w hSw
  try dsimp only at hSw
  go_simp
  try with_reducible rfl
 simp only[Act.put,sA,sB,sC]
 refine wpAnyH_take (i:=9) (oi:={ dst:=some 23,op:=_,type:=_,pos:=_,after:=_,guard:=_ }) (v:=?_) rfl (by kernel_rfl) (by kernel_rfl) (by kernel_rfl) (fun _ _ _ h=>h) (Or.inl ⟨by rfl,?_⟩) (by assumption) ?_
 case refine_2 =>
  intro w hSw
  try dsimp only at hSw
  go_simp
  try with_reducible rfl
 simp only[Act.put,sA,sB,sC]
 refine wpAnyH_take (i:=10) (oi:={ dst:=some 24,op:=_,type:=_,pos:=_,after:=_,guard:=_ }) (v:=?_) rfl (by kernel_rfl) (by kernel_rfl) (by kernel_rfl) (fun _ _ _ h=>h) (Or.inl ⟨by rfl,?_⟩) (by assumption) ?_
 case refine_2 =>
  intro w hSw
  try dsimp only at hSw
  go_simp
  try with_reducible rfl
 simp only[Act.put,sA,sB,sC]
 refine wpAnyH_take (i:=11) (oi:={ dst:=some 25,op:=_,type:=_,pos:=_,after:=_,guard:=_ }) (v:=?_) rfl (by kernel_rfl) (by kernel_rfl) (by kernel_rfl) (fun _ _ _ h=>h) (Or.inl ⟨by rfl,?_⟩) (by assumption) ?_
 case refine_2 =>
  intro w hSw
  try dsimp only at hSw
  go_simp
  try with_reducible rfl
 simp only[Act.put,sA,sB,sC]
 refine wpAnyH_take (i:=12) (oi:={ dst:=some 26,op:=_,type:=_,pos:=_,after:=_,guard:=_ }) (v:=?_) rfl (by kernel_rfl) (by kernel_rfl) (by kernel_rfl) (fun _ _ _ h=>h) (Or.inl ⟨by rfl,?_⟩) (by assumption) ?_
 case refine_2 =>
  intro w hSw
  try dsimp only at hSw
  go_simp
  try with_reducible rfl
 simp only[Act.put,sA,sB,sC]
 refine wpAnyH_ready (rs:=[3]) (by kernel_rfl) (by simp) ?_
 refine AllReadyH.cons (o:={ dst:=some 17,op:=_,type:=_,pos:=_,after:=_,guard:=_ }) rfl (fun K hK=>?_) AllReadyH.nil
 refine aag rfl (by simp[Act.eval,ent0,go_sem]) (((za HCY) _ (Below.drew (Below.refl _ _))).mono ?_)
 rintro e w1 ⟨rfl,hb1⟩
 have k7:=zj hb1 c7 (ze c7)
 have HB1:=zc hb1
 clear hb1
 refine hK.out _ _ k7 (fun hHeld3=>?_)
 clear hK K
 simp only[Act.put,sA,sB,sC]
 refine wpAnyH_ready (rs:=[7]) (by kernel_rfl) (by simp) ?_
 refine AllReadyH.cons (o:={ dst:=some 21,op:=_,type:=_,pos:=_,after:=_,guard:=_ }) rfl (fun K hK=>?_) AllReadyH.nil
 refine aag rfl (by simp[Act.eval,ent3,go_sem]) (((za HCO) _ ((Below.drew (Below.refl _ _)).trans (za HB1))).mono ?_)
 rintro e w2 ⟨rfl,hb2⟩
 have k8:=zj hb2 k7 (ze k7)
 have HB2:=zc hb2
 clear hb2
 refine hK.out _ _ k8 (fun hHeld7=>?_)
 clear hK K
 simp only[Act.put,sA,sB,sC]
 refine wpAnyH_take (i:=8) (oi:={ dst:=some 22,op:=_,type:=_,pos:=_,after:=_,guard:=_ }) (v:=?_) rfl (by kernel_rfl) (by kernel_rfl) (by kernel_rfl) (fun _ _ _ h=>h) (Or.inl ⟨by rfl,?_⟩) (by assumption) ?_
 case refine_2 =>
  intro w hSw
  try dsimp only at hSw
  go_simp
  try with_reducible rfl
 simp only[Act.put,sA,sB,sC]
 refine wpAnyH_take (i:=13) (oi:={ dst:=some 27,op:=_,type:=_,pos:=_,after:=_,guard:=_ }) (v:=?_) rfl (by kernel_rfl) (by kernel_rfl) (by kernel_rfl) (fun _ _ _ h=>h) (Or.inl ⟨by rfl,?_⟩) (by assumption) ?_
 case refine_2 =>
  intro w hSw
  try dsimp only at hSw
  go_simp
  try with_reducible rfl
 simp only[Act.put,sA,sB,sC]
 refine wpAnyH_done (by kernel_rfl) ?_ _
 go_wp2_with fail
 have hbw:Below w.heap.size w w2:=((Below.drew (Below.refl _ _)).trans (za HB1)).trans ((za HB2).mono (za HB1).size)
 have HG2:=zc ((za H).keep hbw)
 have HR2:=zc ((za HR).keep hbw)
 have HBW:=zc hbw
 clear hbw k7 k8 hHeld hHeld3 hHeld7 hwr hrm c7
 refine(ahd ((za HG2).at'.young (za HG2).few) (by have:=(za HG2).cnt;omega)).mono ?_
 rintro e w3 ⟨rfl,rfl⟩
 have hz3:=agu w2 hp 0 P.Y.length
 go_wp2_with fail
 refine(ado _ hp 3 (w2.heap.size+2) 1 1).mono ?_
 rintro e w4 ⟨rfl,hw4⟩
 have hz4:((ab9 w2 hp 0 P.Y.length).alloc (.cells #[.pointer (some ⟨w2.heap.size+1,0,none⟩)] 108)).heap.size=w2.heap.size+3:=by simp[hz3]
 have hw4':w4=afm w2 hp P.Y.length:=hw4
 have hm4:MvAt B w4 (aa6 w2 hp vyo vyf) (aae P) (zx P vyo vyf voo vof vn mb) 51 voo vof:=by rw[hw4'];exact ah7 (za HG2)
 have hb4:Below w2.heap.size w2 w4:=by rw[hw4'];exact agx _ _ _
 have hs4:w4.heap.size=w2.heap.size+5:=by rw[hw4'];simp[afm,ae2,hz3]
 have HM4:=zc hm4
 have HB4:=zc hb4
 have HG4:=zc ((za HG2).keep hb4)
 have HR4:=zc ((za HR2).keep hb4)
 have HS4:=zc hs4
 obtain⟨gof,cof,hvof⟩:=aaa (za HG4).at'.of'
 have d5:w4.cell? ⟨hp,5,none⟩=some (.slice gof (zg P.O).length cof):=by rw[←hvof];exact zd (za HG4).at'.blk 5
 obtain⟨gvn,cvn,hvn⟩:=aaa (za HG4).at'.nt
 have d8:w4.cell? ⟨hp,8,none⟩=some (.slice gvn P.noted.length cvn):=by rw[←hvn];exact zd (za HG4).at'.blk 8
 have HVN:=zc hvn
 rw[hz4]
 clear hw4 hw4' hm4 hb4 hs4 hz3 hz4 hvof hvn
 go_wp2_with fail
 go_loopg [50] P.noted.length (fun gg iv wx=>∃k:Nat,k≤P.noted.length∧gg=P.noted.length-k∧iv=.int .i64 k∧Hid (LpSt B P (aa6 w2 hp vyo vyf) voo vof w4 k wx))
 case atStart=>exact⟨0,Nat.zero_le _,by omega,rfl,aae P,_,_,_,NI.start P (by have:=(za HG2).two;omega),ama (za HG2),za HM4,FrM.of_below (Below.refl _ _) (hlt (za HG4).at'.blk),Or.inl rfl,Or.inl rfl⟩
 case round =>
  obtain⟨k,hk,rfl,rfl,HY⟩:=hrel
  clear d5 d8
  by_cases hlt1:k<P.noted.length
  ·have hlt2:(k:Int)<(P.noted.length:Int):=by omega
   obtain⟨j,hj1,hj2⟩:=za HNR _ (List.getElem_mem hlt1)
   obtain⟨x,hx⟩:∃x,P.O[j]?=some x:=⟨_,List.getElem?_eq_getElem hj2⟩
   obtain⟨Mk,csk,vt,vf,hNI,hCk,hMk,hFk,hak,hbk⟩:=za HY
   -- the number
   obtain⟨gn,capn,en,_,cn0,_⟩:=aa1 (za HG4).at'.nt (j:=k) (by omega)
   have egv:gvn=some ⟨gn,0,none⟩:=by
    have:=za HVN
    rw[en] at this
    cases this
    rfl
   have tN:Typ w4 gn 3:=zu (za HG4).at'.nt (by rw[en];rfl)
   have cnk:wr.cell? ⟨gn,k,none⟩=some (.int .i64 j):=by
    have hbn:wr.heap[gn]?=w4.heap[gn]?:=hFk.block gn tN.lt ?_ ?_ ?_ ?_
    ·rw[World.cell?_of_block hbn,cn0,List.getElem?_map,List.getElem?_eq_getElem hlt1,hj1]
     rfl
    ·exact tN.ne (⟨_,_,(za HG4).at'.blk⟩:Typ w4 hp 51) (by decide)
    ·intro b hb e
     have hb2:b=⟨w2.heap.size+1,hp,0,w2.heap.size,vyo,vyf⟩:=by simpa [aa6] using hb
     rw[hb2] at e
     have e:w2.heap.size=gn:=e
     have hl:=(zp (za HG2).at'.nt gn (by rw[en];rfl)).2.1
     omega
    ·intro e
     exact(zu (za HG4).at'.oo e).ne tN (by decide) rfl
    ·intro e
     exact(zu (za HG4).at'.of' e).ne tN (by decide) rfl
   subst egv
   -- its mark,and a copy of it
   have hjT:j<Mk.T.length:=Nat.lt_of_lt_of_le hj2 hNI.inv.kle
   obtain⟨go,capo,eo,hcapo,q5,_⟩:=aa1 hMk.tpart.objs (j:=j*6+5) (by omega)
   have c4:wr.cell? ⟨hp,4,none⟩=some (.slice (some ⟨go,0,none⟩) Mk.T.length capo):=by
    rw[←eo]
    exact(zd hMk.tpart.blk 4).trans hMk.tpart.e1
   have hjl:(j:Int)<(Mk.T.length:Int):=by omega
   have c5o:∃u,wr.cell? ⟨go,j*6+5,none⟩=some u:=by
    obtain⟨y,hy⟩:∃y,Mk.T[j]?=some y:=⟨_,List.getElem?_eq_getElem hjT⟩
    exact⟨_,by rw[q5,agn hy (by decide)];rfl⟩
   clear q5
   obtain⟨u5,c5o⟩:=c5o
   have hM1:=hMk.marked eo hjT false
   have hF1:=hFk.trans (hMk.mark_frame eo (i:=j*6+5) (.bool false)) hak hbk
   have hN1:=hNI.mark hj2
   have hC1:=hCk.marked false j
   obtain⟨y,hy⟩:∃y,(aam false Mk.T j)[j]?=some y:=⟨_,List.getElem?_eq_getElem (by rw[acn];exact hjT)⟩
   have key:∀c,c<6→(wr.setCell ⟨go,j*6+5,none⟩ (.bool false)).cell? ⟨go,j*6+c,none⟩=(aaz (zm P.O j) y)[c]?:=fun c hc=>by
    obtain⟨g',c',e',_,q',_⟩:=aa1 hM1.tpart.objs (j:=j*6+c) (by show j*6+c<(aam false Mk.T j).length*6;rw[acn];omega)
    rw[eo] at e'
    obtain⟨e1,_,_⟩:=Value.slice.inj e'
    cases e1
    rw[q',agn hy hc,hN1.beg (Nat.le_of_lt hj2)]
   have hyl:y.fs.length=x.fs.length:=by
    obtain⟨r,e⟩:=hN1.hd
    have:=congrArg (·[j]?) e
    simp only[List.getElem?_map] at this
    rw[show ({ Mk with T:=aam false Mk.T j }:MS).T[j]?=some y from hy,List.getElem?_append_left (by simpa using hj2),List.getElem?_map,hx] at this
    simp only[Option.map_some,Option.some.injEq] at this
    exact congrArg (fun z=>z.2.2.2) this
   have hbl:=ach hx
   have hpo:=hCk.po
   have HC1:=zc hC1
   have HM1:=zc hM1
   have HF1:=zc hF1
   have HAK:=zc hak
   have HBK:=zc hbk
   have HN1:Hid (NI P.O (aae P).L P.fo (fun q=>aea P k q∨(zm P.O j≤q∧q<zm P.O j+0)) (aeb P (k+1)) { Mk with T:=aam false Mk.T j }):=hN1.iff (fun q _=>⟨Or.inl,fun h=>h.resolve_right (by omega)⟩) (fun q _=>by
    unfold aeb
    rw[List.take_succ_eq_append_getElem hlt1,List.mem_append,List.mem_singleton,hj1]
    constructor
    ·rintro (h | h)
     ·exact Or.inl h
     ·exact Or.inr (by rw[h])
    ·rintro (h | h)
     ·exact Or.inl h
     ·exact Or.inr (by omega))
   have m0k:=hM1.m0
   have k0:(wr.setCell ⟨go,j*6+5,none⟩ (.bool false)).cell? ⟨go,j*6,none⟩=some (.int .i64 y.kind):=key 0 (by omega)
   have k1:(wr.setCell ⟨go,j*6+5,none⟩ (.bool false)).cell? ⟨go,j*6+1,none⟩=some (.int .i64 y.tag):=key 1 (by omega)
   have k2:(wr.setCell ⟨go,j*6+5,none⟩ (.bool false)).cell? ⟨go,j*6+2,none⟩=some (.int .i64 y.id):=key 2 (by omega)
   have k3:(wr.setCell ⟨go,j*6+5,none⟩ (.bool false)).cell? ⟨go,j*6+3,none⟩=some (.int .i64 (zm P.O j)):=key 3 (by omega)
   have k4:(wr.setCell ⟨go,j*6+5,none⟩ (.bool false)).cell? ⟨go,j*6+4,none⟩=some (.int .i64 x.fs.length):=by
    rw[←hyl]
    exact key 4 (by omega)
   have k5:(wr.setCell ⟨go,j*6+5,none⟩ (.bool false)).cell? ⟨go,j*6+5,none⟩=some (.bool y.noted):=key 5 (by omega)
   have hw4:w4.heap.size≤wr.heap.size:=hFk.size
   have HX:=zc hx
   have HEO:=zc eo
   have hd4:(wr.setCell ⟨go,j*6+5,none⟩ (.bool false)).cell? ⟨hp,4,none⟩=some (.slice (some ⟨go,0,none⟩) Mk.T.length capo):=by
    rw[←eo]
    exact(zd hM1.tpart.blk 4).trans hM1.tpart.e1
   clear hNI hCk hMk hFk hak hbk hM1 hF1 hN1 hC1 key en cn0 tN hx eo hy HY
   go_wp2
   obtain⟨W1,hW1⟩:∃W1,(wr.setCell ⟨go,j*6+5,none⟩ (.bool false)).alloc (.cells #[.int .i64 y.kind,.int .i64 y.tag,.int .i64 y.id,.int .i64 (zm P.O j),.int .i64 x.fs.length,.bool y.noted] 61)=W1:=⟨_,rfl⟩
   have hbW:Below (wr.setCell ⟨go,j*6+5,none⟩ (.bool false)).heap.size (wr.setCell ⟨go,j*6+5,none⟩ (.bool false)) W1:=by rw[←hW1];exact(Below.refl _ _).alloc (Nat.le_refl _) _
   have hcb:W1.heap[wr.heap.size]?=some (.cells #[.int .i64 y.kind,.int .i64 y.tag,.int .i64 y.id,.int .i64 (zm P.O j),.int .i64 x.fs.length,.bool y.noted] 61 (0,0)):=by
    rw[←hW1]
    exact afk _ _ (by simp[World.setCell])
   have htb:(aa6 w2 hp vyo vyf).tb<(wr.setCell ⟨go,j*6+5,none⟩ (.bool false)).heap.size:=hlt (za HM1).tpart.blk
   have hszW:(wr.setCell ⟨go,j*6+5,none⟩ (.bool false)).heap.size=wr.heap.size:=by simp[World.setCell]
   have HM2:=zc ((za HM1).keep hbW)
   have HF2:=zc ((za HF1).trans (FrM.of_below (vto:=vt) (vtf:=vf) hbW htb) (za HAK) (za HBK))
   have hot:vt.ownBlock≠some wr.heap.size:=fun e=>by
    have:=(zp (za HM1).tpart.objs _ e).2.1
    omega
   have hof:vf.ownBlock≠some wr.heap.size:=fun e=>by
    have:=(zp (za HM1).tpart.flds _ e).2.1
    omega
   have HOUT:Hid (Out (aa6 w2 hp vyo vyf) vt vf W1 wr.heap.size):=⟨hlt hcb,by have:hp<wr.heap.size:=(by rw[←hszW];exact htb);show wr.heap.size≠hp;omega,fun b hb e=>by
    simp[aa6] at hb
    subst hb
    have e:w2.heap.size=wr.heap.size:=e
    have:=(za HB4).size
    have:=hlt (za HM4).tpart.blk
    have hm:=hlt (za HG4).at'.blk
    have:w2.heap.size<w4.heap.size:=Typ.lt ((za HM4).wb_ty (b:=⟨w2.heap.size+1,hp,0,w2.heap.size,vyo,vyf⟩) (by simp[aa6]))
    omega,hot,hof⟩
   have HCB:=zc hcb
   obtain⟨wr0,hwr0⟩:∃wr0,wr0=wr:=⟨_,rfl⟩
   rw[hW1]
   clear hW1
   subst hwr0
   clear hbW hcb htb hot hof k0 k1 k2 k3 k4 k5 hd4 m0k cnk c4 c5o HM1 HF1
   go_loopg [72] x.fs.length (fun gg iv wx=>∃i:Nat,i≤x.fs.length∧gg=x.fs.length-i∧iv=.int .i64 i∧Hid (LpIn B P (aa6 w2 hp vyo vyf) vt vf W1 k j i wx))
   case atStart=>exact⟨0,Nat.zero_le _,by omega,rfl,_,za HN1,za HC1,MvPost.refl (za HM2)⟩
   case round =>
    obtain⟨i,hi,rfl,rfl,HY⟩:=hrel
    by_cases hil:i<x.fs.length
    ·have hil2:(i:Int)<(x.fs.length:Int):=by omega
     obtain⟨Mi,hNi,hCi,hFi,csi,vti,vfi,hMi,ai,bi⟩:=za HY
     have hbi:wr.heap[wr0.heap.size]?=_:=((za HOUT).same hFi).trans (za HCB)
     have e3:wr.cell? ⟨wr0.heap.size,3,none⟩=some (.int .i64 (zm P.O j)):=zd hbi 3
     have hlf:zm P.O j+i<(zg Mi.T).length:=by have:=hNi.inv.sle;omega
     have hfew:=hMi.tpart.few
     have hw:wrap64 ((zm P.O j:Nat)+(i:Nat):Int)=((zm P.O j+i:Nat):Int):=by unfold wrap64;omega
     have HWR:=zc hw
     have HFEW:=zc hfew
     clear hw hfew
     have HFI:=zc (ajv hMi hCi hlf)
     have HN2:=zc (hNi.field (i:=zm P.O j+i) (by omega) (fun q=>q.elim (aoa (za HND) hlt1 hj1 (za HX) hil) (by omega)))
     have HC2:=zc (hCi.field hNi.inv (zm P.O j+i))
     have HFF:=zc hFi
     have HAI:=zc ai
     have HBI:=zc bi
     clear hNi hCi hFi hMi ai bi HY hbi
     go_wp2_with fail
     rw[za HWR]
     refine(za HFI).mono ?_
     rintro e w1 ⟨rfl,hp⟩
     have HP1:=zc hp
     clear hp e3
     go_wp2_with fail
     go_roundg (x.fs.length-(i+1))
     case measure=>omega
     case rel=>exact⟨i+1,by omega,rfl,by have:=za HFEW;rw[show wrap64 ((i:Nat)+1:Int)=((i+1:Nat):Int) by unfold wrap64;omega],_,(za HN2).iff (fun q _=>⟨fun h=>h.elim (fun h=>h.imp id (fun h=>by omega)) (fun h=>Or.inr (by omega)),fun h=>h.elim (fun h=>Or.inl (Or.inl h)) (fun h=>by
      by_cases e:q=zm P.O j+i
      ·exact Or.inr e
      ·exact Or.inl (Or.inr (by omega)))⟩) (fun _ _=>Iff.rfl),za HC2,MvPost.trans (za HFF) (za HAI) (za HBI) (za HP1)⟩
    ·obtain rfl:i=x.fs.length:=by omega
     have hil2:decide ((x.fs.length:Int)<(x.fs.length:Int))=false:=by simp
     go_wp2_with fail
     go_roundg (P.noted.length-(k+1))
     case measure=>omega
     case rel =>
      obtain⟨Mi,hNi,hCi,hFi,csi,vti,vfi,hMi,ai,bi⟩:=za HY
      exact⟨k+1,by omega,rfl,by go_num,Mi,csi,vti,vfi,hNi.iff (fun q _=>am4 hlt1 hj1 (za HX) q) (fun _ _=>Iff.rfl),hCi,hMi,(za HF2).trans hFi (za HAK) (za HBK),aa4 (za HAK) ai (za HF2).size,aa4 (za HBK) bi (za HF2).size⟩
  ·obtain rfl:k=P.noted.length:=by omega
   obtain⟨Mk,csk,vt,vf,hNI,hCk,hMk,hFk,hak,hbk⟩:=za HY
   have hlt2:decide ((P.noted.length:Int)<(P.noted.length:Int))=false:=by simp
   have HNI:=zc hNI
   have HCK:=zc hCk
   have HMK:=zc hMk
   have HFK:=zc hFk
   have HAK:=zc hak
   have HBK:=zc hbk
   clear hNI hCk hMk hFk hak hbk HY
   go_wp2_with fail
   have HFIT0:=zc (amc (za HG2) (za HR2) (za HB4))
   have HFIT:=zc ((za HFIT0).later (za HFK) (za HAK) (za HBK))
   have HRK:=zc ((za HR4).rt.same (za HFIT0).out (za HFK))
   refine(ae1 (za HMK) (za HCK) (za HNI).inv (za HRK) (za HFIT).out (za HR4).n64 (za HR4).few cap).mono ?_
   rintro e w5 ⟨rfl,hF5,cs5,vt5,vf5,hM5,a5,b5⟩
   obtain⟨hI5,hL5,hft5,hT5,hp5,hW5⟩:=(za HNI).inv.roots (zy l)
   have hC5:=Cap.roots (zy l) (za HCK) (za HNI).inv (fun v hv=>by
    unfold zy at hv
    obtain⟨r,hr1,hr2⟩:=List.mem_filterMap.1 hv
    cases r with
    | none=>cases hr2
    | some z =>
     obtain⟨rb,ro,u⟩:=z
     cases hr2
     exact(za HR4).n64 rb ro _ hr1)
   have HF5:=zc hF5
   have HM5:=zc hM5
   have HI5:=zc hI5
   have HC5:=zc hC5
   have HL5:=zc hL5
   have HW5:=zc hW5
   have HA5:=zc a5
   have HB5:=zc b5
   have HFT5:=zc hft5
   have HP5:=zc hp5
   have HT5:=zc hT5
   clear hF5 hM5 hI5 hC5 hL5 hW5 a5 b5 hft5 hT5 hp5
   go_wp2_with fail
   refine(afl (za HM5) (za HC5) (za HI5)).mono ?_
   rintro e w6 ⟨rfl,hF6,cs6,vt6,vf6,hM6,a6,b6⟩
   obtain⟨hI6,hL6,hft6,⟨r6,hr6⟩,hg6⟩:=(za HI5).rest (pot (zv Mk (zy l))-(zg P.O).length) (by omega)
   have hC6:=Cap.rest (pot (zv Mk (zy l))-(zg P.O).length) (za HC5) (za HI5)
   have hLK:=(za HL5).trans hL6
   have hLL:=(za HNI).lat.trans hLK
   have HLK:=zc hLK
   clear hLK
   have hFF:=(za HFK).trans ((za HF5).trans hF6 (za HA5) (za HB5)) (za HAK) (za HBK)
   have aa:=aa4 (za HAK) (aa4 (za HA5) a6 (za HF5).size) (za HFK).size
   have bb:=aa4 (za HBK) (aa4 (za HB5) b6 (za HF5).size) (za HFK).size
   have hto:agv (aai (pot (zv Mk (zy l))-(zg P.O).length) (zv Mk (zy l)) (zg P.O).length):=fun t _=>by
    rw[hLL.leads,show _=(aae P).ft from hft6.trans ((za HFT5).trans (za HNI).ft)]
    exact amb (za HG2) t
   have hwn:∀rb ro v,some (rb,ro,v)∈l→aa0 (aai (pot (zv Mk (zy l))-(zg P.O).length) (zv Mk (zy l)) (zg P.O).length).L v:=fun rb ro v hv=>hL6.went (za HW5 v (by
    unfold zy
    exact List.mem_filterMap.2 ⟨_,hv,rfl⟩))
   have hhdr:∃r,(aai (pot (zv Mk (zy l))-(zg P.O).length) (zv Mk (zy l)) (zg P.O).length).T.map hdr=Mk.T.map hdr++r:=by
    obtain⟨r5,q5⟩:=za HT5
    exact⟨r5.map hdr++r6,by rw[hr6,q5,List.map_append,List.append_assoc]⟩
   have hold:∀i,i<(zg P.O).length→(zg (aai (pot (zv Mk (zy l))-(zg P.O).length) (zv Mk (zy l)) (zg P.O).length).T)[i]?=(zg Mk.T)[i]?:=fun i hi=>by
    obtain⟨r5,q5⟩:=za HT5
    rw[hg6 i hi,q5,show zg (Mk.T++r5)=zg Mk.T++zg r5 by simp[zg],List.getElem?_append_left (Nat.lt_of_lt_of_le hi (za HNI).inv.sle)]
   have hft:(aai (pot (zv Mk (zy l))-(zg P.O).length) (zv Mk (zy l)) (zg P.O).length).ft=P.fo:=by rw[hft6,za HFT5,(za HNI).ft]
   clear hr6 hg6 hft6
   obtain⟨M6,hM6e⟩:∃M6,aai (pot (zv Mk (zy l))-(zg P.O).length) (zv Mk (zy l)) (zg P.O).length=M6:=⟨_,rfl⟩
   have HM6E:=zc hM6e
   rw[hM6e] at hI6 hL6 hC6 hM6 hLL hto hwn hhdr hold hft HLK
   clear hM6e
   obtain⟨w7,hw7⟩:∃w7,w6.alloc (.cells #[.pointer (some ⟨w2.heap.size+1,0,none⟩)] 108)=w7:=⟨_,rfl⟩
   have hb7:Below w6.heap.size w6 w7:=by rw[←hw7];exact(Below.refl _ _).alloc (Nat.le_refl _) _
   obtain⟨p0,hp0,hpf,hpl,hst⟩:=an3 (za HG2) (za HB4) (za HR2) hFF hM6 aa bb hw7.symm
   have HM7:=zc (hM6.keep hb7)
   have HFIT7:=zc (((za HFIT0).later hFF aa bb).alloc hb7 (hlt hM6.tpart.blk))
   have HRT7:Hid (RtAt w7 g l):=by
    have q:=(za HR4).rt.same (za HFIT0).out hFF
    refine⟨fun k r hk=>?_,fun rb ro v hv=>?_⟩
    ·obtain⟨gb,go,e,hc⟩:=q.at' k r hk
     exact⟨gb,go,e,zj hb7 hc (ze (a:=⟨gb,go+k,none⟩) hc)⟩
    ·obtain⟨x,y,z⟩:=q.val rb ro v hv
     exact⟨zj hb7 x (ze x),zj hb7 y (ze y),zj hb7 z (ze z)⟩
   have HI7:=zc hI6
   have HC7:=zc hC6
   have HTO7:=zc hto
   have HWN7:=zc hwn
   have HST7:=zc hst
   have hids:∀q x,aak M6.L q=some x→I64 x.id:=fun q x hq=>by
    rw[hLL.objs] at hq
    have hx:x∈P.Y++P.O:=by
     unfold aak aae at hq
     obtain⟨i,k⟩:=q
     match i with
     | 0=>exact List.mem_append_left _ (List.mem_of_getElem? (by simpa using hq))
     | i+1=>simp at hq
    exact((za HG2).vals x hx).1
   have HIDS7:=zc hids
   have hcnt:n+abo M6.L≤1000000000:=by
    rw[hp0]
    have:=(za HG2).cnt
    simp[abo,hpl]
    omega
   have HCNT7:=zc hcnt
   have HLL:=zc hLL
   have HFF:=zc hFF
   have HAA:=zc aa
   have HBB:=zc bb
   have HB7:=zc hb7
   have HHDR:=zc hhdr
   have HOLD:=zc hold
   have HFTM:=zc hft
   clear hI6 hL6 hC6 hLL hFF aa bb hto hwn hF6 hM6 a6 b6 hb7 hids hcnt hst hhdr hold hft
   go_wp2_with fail
   refine(afa (c2:=1) (za HM7) (za HC7) (za HI7) (za HTO7) (za HRT7) (za HFIT7) (za HR4).n64 (za HWN7) (za HR4).few cap (za HST7) (za HIDS7) (za HCNT7)).mono ?_
   rintro e w8 ⟨rfl,wl,csl,vtl,vfl,hcs,T',n',s1,s2,s3,s4,s5,s6,s7,s8,s9,s10,s11,s12,s13,s14,s15⟩
   have hpT:hcs=csl∧T'=51:=by
    have q:wl.heap[hp]?=some (.cells csl 51 (0,0)):=s3.tpart.blk
    rw[s6] at q
    cases q
    exact⟨rfl,rfl⟩
   obtain⟨rfl,rfl⟩:=hpT
   have nrt:¬acr l hp:=(za HST7).hr
   have hd:∀c,c<4∨5<c→wl.cell? ⟨hp,c,none⟩=(zx P vyo vyf voo vof vn mb)[c]?:=fun c hc=>by
    have q1:wl.cell? ⟨hp,c,none⟩=w7.cell? ⟨hp,c,none⟩:=s2.head nrt c (by show c<4∨5<c;exact hc)
    have q2:w6.cell? ⟨hp,c,none⟩=w4.cell? ⟨hp,c,none⟩:=(za HFF).head c (by show c<4∨5<c;exact hc)
    have hl6:hp<w6.heap.size:=Nat.lt_of_lt_of_le (hlt (za HG4).at'.blk) (za HFF).size
    rw[q1,(za HB7).cell (p:=⟨hp,c,none⟩) hl6,q2]
    exact zd (za HG4).at'.blk c
   have c11:wl.cell? ⟨hp,11,none⟩=some (.int .i64 P.minors):=hd 11 (by omega)
   have d11:w8.cell? ⟨hp,11,none⟩=some (.int .i64 P.minors):=by
    rw[zd s10]
    simp only[Array.getElem?_setIfInBounds]
    rw[zd s6] at c11
    simpa using c11
   have z11:w8.frozen? ⟨hp,11,none⟩=false:=zt s10 11
   have S1:=zc s1
   have S2:=zc s2
   have S3:=zc s3
   have S4:=zc s4
   have S5:=zc s5
   have S6:=zc s6
   have S8:=zc s8
   have S9:=zc s9
   have S10:=zc s10
   have S11:=zc s11
   have S12:=zc (⟨s12,s13,s14,s15⟩:wl.heap.size≤w8.heap.size∧w8.os=wl.os∧w8.tape=wl.tape∧w8.output=wl.output)
   have HD:=zc hd
   clear s1 s2 s3 s4 s5 s6 s8 s9 s10 s11 s12 s13 s14 s15 hd c11
   go_wp2_with fail
   go_ret
   have z1:w.heap.size≤w2.heap.size:=(za HBW).size
   have z2:w2.heap.size≤w4.heap.size:=(za HB4).size
   have z3:w4.heap.size≤w6.heap.size:=(za HFF).size
   have z4:w6.heap.size≤w7.heap.size:=(za HB7).size
   have z5:w7.heap.size≤wl.heap.size:=(za S2).size
   obtain⟨es,cl,hm7,_⟩:=(za HST7).own
   have tH7:Typ w7 hp 51:=(za HM7).tb_ty
   have keepw:∀(x:Value) k,k<wl.heap.size→k≠mb→k≠hp→(w8.setCell ⟨hp,11,none⟩ x).heap[k]?=wl.heap[k]?:=fun x k hk h1 h2=>(zo x h2).trans (za S11 k hk h1 h2)
   have tv:∀k t,Typ w7 k t→t≠51→k≠mb∧k≠hp∧k<wl.heap.size:=fun k t hk hne=>⟨abj hm7 hk,hk.ne tH7 hne,Nat.lt_of_lt_of_le hk.lt z5⟩
   have tl:∀k t,Typ wl k t→t≠51→k≠mb∧k≠hp∧k<wl.heap.size:=fun k t hk hne=>by
    have hml:wl.heap[mb]?=some (.map es cl):=((za S2).block mb (za HST7).mo (za HST7).mr).trans hm7
    exact⟨abj hml hk,hk.ne ⟨_,_,za S6⟩ hne,hk.lt⟩
   refine⟨rfl,Mk,M6,n',vtl,vfl,wrap64 (P.minors+1),za HNI,?_,za HC7,za HLL,za HFTM,za HM6E,za HHDR,za HOLD,za HLK,rfl,za HWN7,⟨fun k r hk=>?_,fun rb ro v hv=>?_,fun rb ro v hv=>?_⟩,⟨?_,World.ownsRow_nil _ _ _ _,World.ownsRow_nil _ _ _ _,?_,?_,World.ownsRow_nil _ _ _ _⟩,?_,?_,?_,?_,fun k hk h1 h2 h3 h4 h5=>?_,?_,?_,?_,?_,fun k hk h1 h2 h3 h4 cs t fr hc=>?_⟩
   ·exact za HI7
   ·obtain⟨gb,go,e,hc⟩:=(za S1).at' k r hk
    have ht:=(za HFIT7).gt gb go e (by have:=(List.getElem?_eq_some_iff.1 hk).1;omega)
    obtain⟨a1,a2,a3⟩:=tv gb _ ht (by decide)
    exact⟨gb,go,e,(World.cell?_of_block (keepw _ gb a3 a1 a2)).trans hc⟩
   ·obtain⟨a1,a2,a3⟩:=tv rb _ ((za HFIT7).ty rb ro v hv) (by decide)
    obtain⟨x,y,z⟩:=(za S1).val rb ro v hv
    exact⟨(World.cell?_of_block (keepw _ rb a3 a1 a2)).trans x,(World.cell?_of_block (keepw _ rb a3 a1 a2)).trans y,(World.cell?_of_block (keepw _ rb a3 a1 a2)).trans z⟩
   ·obtain⟨a1,a2,a3⟩:=tv rb _ ((za HFIT7).ty rb ro v hv) (by decide)
    obtain⟨c,hc⟩:=(za S1).fz rb ro v hv
    exact⟨c,(keepw _ rb a3 a1 a2).trans hc⟩
   ·rw[aad (za S10)]
    congr 1
    apply congrArg (fun z=>Obj.cells z 51 (0,0))
    have hsz:hcs.size=13:=(za S3).szn
    refine ahf (by simp[hsz]) rfl (fun c hc=>?_)
    have g4:hcs[4]?=some vtl:=(za S3).tpart.e1
    have g5:hcs[5]?=some vfl:=(za S3).tpart.e2
    have gg:∀c,c<4∨5<c→hcs[c]?=(zx P vyo vyf voo vof vn mb)[c]?:=fun c hc=>by
     rw[←zd (za S6)]
     exact za HD c hc
    simp only[Array.getElem?_setIfInBounds,Array.size_setIfInBounds,hsz]
    match c,hc with
    | 0,_=>simp[zx,aba,hpf,hpl]
    | 1,_=>simp[zx]
    | 2,_=>simp[zx]
    | 3,_=>simpa [zx,aba] using gg 3 (by omega)
    | 4,_=>simpa [zx] using g4
    | 5,_=>simpa [zx] using g5
    | 6,_=>simpa [zx,aba] using gg 6 (by omega)
    | 7,_=>simpa [zx,aba] using gg 7 (by omega)
    | 8,_=>simp[zx]
    | 9,_=>simpa [zx,aba] using gg 9 (by omega)
    | 10,_=>simpa [zx,aba] using gg 10 (by omega)
    | 11,_=>simp[zx,aba]
    | 12,_=>simpa [zx,aba] using gg 12 (by omega)
   ·exact zs (za S3).tpart.objs (fun j hj=>by
     obtain⟨a1,a2,a3⟩:=tl j _ (zu (za S3).tpart.objs hj) (by decide)
     exact keepw _ j a3 a1 a2)
   ·exact zs (za S3).tpart.flds (fun j hj=>by
     obtain⟨a1,a2,a3⟩:=tl j _ (zu (za S3).tpart.flds hj) (by decide)
     exact keepw _ j a3 a1 a2)
   ·obtain⟨e8,c8,h8,r8⟩:=za S8
    have hne:mb≠hp:=fun e=>by
     have q:=za S10
     rw[←e,h8] at q
     cases q
    exact⟨e8,c8,(zo _ hne).trans h8,r8⟩
   ·have:=za S9
    rw[hp0] at this
    simp[hpl] at this
    exact this
   ·exact(aa4 (za HAA) (za S4) (by omega)).imp id (fun q j hj=>by have:=q j hj;omega)
   ·exact(aa4 (za HBB) (za S5) (by omega)).imp id (fun q j hj=>by have:=q j hj;omega)
   ·have o4:Out (aa6 w2 hp vyo vyf) voo vof w4 k:=⟨by omega,h1,fun b hb' e=>by
     simp[aa6] at hb'
     subst hb'
     have e:w2.heap.size=k:=e
     omega,h3,h4⟩
    have o7:Out (aa6 w2 hp vyo vyf) vt6 vf6 w7 k:=(o4.later (za HFF).size (za HAA) (za HBB)).later z4 (Or.inl rfl) (Or.inl rfl)
    rw[keepw _ k (by omega) h2 h1,(za S2).block k o7 h5,(za HB7).block k (by omega),o4.same (za HFF),(za HB4).block k (by omega)]
    exact(za HBW).block k hk
   ·have:=(za S12).1
    simp[World.setCell]
    omega
   ·exact(za S12).2.1.trans ((za S2).os.trans ((za HB7).os.trans ((za HFF).os.trans ((za HB4).os.trans (za HBW).os))))
   ·exact(za S12).2.2.1.trans ((za S2).tape.trans ((za HB7).tape.trans ((za HFF).tape.trans ((za HB4).tape.trans (za HBW).tape))))
   ·exact(za S12).2.2.2.trans ((za S2).output.trans ((za HB7).output.trans ((za HFF).output.trans ((za HB4).output.trans (za HBW).output))))
   ·have o4:Out (aa6 w2 hp vyo vyf) voo vof w4 k:=⟨by omega,h1,fun b hb' e=>by
     simp[aa6] at hb'
     subst hb'
     have e:w2.heap.size=k:=e
     omega,h3,h4⟩
    have o7:Out (aa6 w2 hp vyo vyf) vt6 vf6 w7 k:=(o4.later (za HFF).size (za HAA) (za HBB)).later z4 (Or.inl rfl) (Or.inl rfl)
    have e7:w7.heap[k]?=some (.cells cs t fr):=by
     rw[(za HB7).block k (by omega),o4.same (za HFF),(za HB4).block k (by omega),(za HBW).block k hk]
     exact hc
    obtain⟨c',e1,e2⟩:=(za S2).cl k o7 cs t fr e7
    exact⟨c',(keepw _ k (by omega) h2 h1).trans e1,e2⟩
end
theorem ap1 {B:Nat} {w:World} {h mb:Nat} {P:PHp} {vyo vyf voo vof vn:Value} (k:HpAt B w h mb P vyo vyf voo vof vn) (hs:Small P) (hfw:Few P) {a:Int} (ha:I64 a) :
  Calls prog 24 #[.pointer (some ⟨h,0,none⟩),.int .i64 a] w fun e w'=>∃r,Found P a r∧e=.returned (.int .i64 (match aa5 P r with | some (_,x)=>x.fs.length | none=>0))∧Below w.heap.size w w':=by
 have hf:∀(x0 x1 x2 x3 x4:Int) (x5:Bool) (w:World),(Go.Instr.field 61 (.agg #[.int .i64 x0,.int .i64 x1,.int .i64 x2,.int .i64 x3,.int .i64 x4,.bool x5]) 4).run prog w=.ok (.int .i64 x4) w:=fun _ _ _ _ _ _ w=>by kernel_rfl
 go_enter func24,ntmps24
 go_wp2_with fail
 refine(ac7 k hs hfw ha).mono ?_
 rintro e w1 ⟨r,hr,rfl,hb1⟩
 have HB:=zc hb1
 have HR:=zc hr
 clear hb1 hr
 cases hx:aa5 P r with
 | none =>
  simp only[adi,aaz,ae9]
  go_wp2_with fail
  go_ret
  exact⟨r,za HR,by rw[hx];rfl,za HB⟩
 | some bx =>
  obtain⟨b,x⟩:=bx
  simp only[adi,aaz]
  go_wp2_with fail
  go_ret
  exact⟨r,za HR,by rw[hx];rfl,za HB⟩
section
open Go.RowKit Go.Maps
theorem ap2 (w:World):(zeroValue 4).run prog w=.ok (.bool false) w:=by kernel_rfl
def il (x:Int):Lit:=.int .i64 x
theorem aod (x:Int):WideAt.IsKeyLit (il x):=by simp[il,WideAt.IsKeyLit]
theorem il_ne {x y:Int} (h:x≠y):il x≠il y:=fun e=>h (by unfold il at e;injection e)
def SeenAt (w:World) (b:Nat) (seen:List Int):Prop :=
 ∃D:DataW Unit,w.ownsMap prog 3 (plainElem prog 4) b seen.length D∧Maps.size D=seen.length∧∀x:Int,Maps.has D (il x)=decide (x∈seen)∧D.atKey (il x) (.lit (.bool false))=.lit (.bool (decide (x∈seen)))
theorem SeenAt.keep {w w':World} {b:Nat} {seen:List Int} (h:SeenAt w b seen) (hb:w'.heap[b]?=w.heap[b]?):SeenAt w' b seen:=by
 obtain⟨D,⟨es,clock,h1,h2⟩,h3⟩:=h
 exact⟨D,⟨es,clock,hb.trans h1,h2⟩,h3⟩
theorem SeenAt.lt {w:World} {b:Nat} {seen:List Int} (h:SeenAt w b seen):b<w.heap.size:=by
 obtain⟨D,h1,_⟩:=h
 exact h1.lt
theorem SeenAt.blk {w:World} {b:Nat} {seen:List Int} (h:SeenAt w b seen):∃es cl,w.heap[b]?=some (.map es cl):=by
 obtain⟨D,⟨es,clock,h1,h2⟩,h3⟩:=h
 exact⟨es,clock,h1⟩
theorem ak3 {v:Value} {c:Bool} {ps:List MemPlace} (h:plainElem (H:=Unit) prog 4 v=some (.lit (.bool c),ps)):v=.bool c:=by
 unfold plainElem at h
 rw[underlying4] at h
 cases v <;> simp at h
 rw[h.1]
theorem SeenAt.look {w:World} {b:Nat} {seen:List Int} (h:SeenAt w b seen) {x:Int} (hx:I64 x) :
  (Go.Instr.lookup 88 (.map (some b)) (.int .i64 x) false).run prog w=.ok (.bool (decide (x∈seen))) w:=by
 obtain⟨D,h1,_,h2⟩:=h
 obtain⟨v,ps,hrun,hv⟩:=h1.lookup ac3 underlying88 (ap2 w) (plainElem_bool underlying4 false) (keyOf_int_mk underlying3 (adj hx))
 rw[show D.atKey (.int .i64 x) (.lit (.bool false))=.lit (.bool (decide (x∈seen))) from (h2 x).2] at hv
 rw[hrun,ak3 hv]
theorem SeenAt.put {w:World} {b:Nat} {seen:List Int} (h:SeenAt w b seen) {x:Int} (hx:I64 x) (hn:x ∉ seen) (hl:seen.length≤1000000) :
  ∃w',(Go.Instr.mapUpdate 88 (.map (some b)) (.int .i64 x) (.bool true)).run prog w=.ok () w'∧SeenAt w' b (x :: seen)∧w.grownBy w' (some b):=by
 obtain⟨D,h1,h2,h3⟩:=h
 have hm:Maps.IsMap D:=h1.isMap
 have ht:Maps.Tidy D:=h1.tidy ac3
 obtain⟨w',hrun,hown,hg⟩:=h1.update ac3 underlying88 (by unfold maxLen;omega) (keyOf_int_mk underlying3 (adj hx)) (plainElem_bool underlying4 true)
 refine⟨w',hrun,⟨_,hown,?_,fun y=>?_⟩,hg⟩
 ·rw[Maps.size_put ht,show Maps.has D (.int .i64 x)=decide (x∈seen) from (h3 x).1,decide_eq_false hn,h2]
  simp
 ·by_cases e:y=x
  ·subst e
   rw[decide_eq_true (List.mem_cons_self ..)]
   exact⟨Maps.has_put_same hm (aod y) _,Maps.atKey_put_same hm (aod y) _ _⟩
  ·have q:decide (y∈x :: seen)=decide (y∈seen):=by simp[e]
   rw[q]
   have hne:il y≠.int .i64 x:=il_ne e
   rw[Maps.has_put_other hne,Maps.atKey_put_other hne]
   exact h3 y
theorem SeenAt.made (w:World):SeenAt (w.alloc (.map #[] 0)) w.heap.size [] :=
 ⟨_,World.ownsMap_made w _ _ _,rfl,fun _=>⟨rfl,rfl⟩⟩
end
end Go.Proofs.YtpnghfghdbijlaaGreatDoor
