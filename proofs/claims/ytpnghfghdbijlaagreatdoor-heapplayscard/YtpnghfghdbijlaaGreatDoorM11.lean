/- A part. -/
import Derived.Test.YtpnghfghdbijlaaGreatDoorM10
open Go.Proofs.Tryz
namespace Go.Proofs.YtpnghfghdbijlaaGreatDoor
open Go.RowKit
set_option linter.unusedVariables false
set_option linter.unusedSimpArgs false
set_option maxRecDepth 100000
set_option maxHeartbeats 40000000
section
open Go.RowKit Go.Maps
theorem afz {P:PHp} (hs:Small P) {j:Nat} (hj:j<P.O.length) {r:Option (Bool×Nat)} (h:Found P (P.fo+2*j) r):r=some (false,j):=by
 have h1:=hs.yo
 have h2:=hs.oe
 cases r,h using Found.parts with
 | young i hi e=>omega
 | old i hi e =>
  obtain rfl:i=j:=by omega
  rfl
 | none hy ho=>exact absurd rfl (ho j hj)
theorem aj7 {P:PHp} {j:Nat} {x:HO} (hx:P.O[j]?=some x):aa5 P (some (false,j))=some (zm P.O j,x):=by
 simp[aa5,hx]
theorem aia {w:World} {h:Nat} {cs:Array Value} {t:TypeId} (hb:w.heap[h]?=some (.cells cs t (0,0))):(binOp .eql 78 (.pointer (some ⟨h,3,none⟩)) (.pointer (some ⟨h,3,none⟩))).run prog w=.ok (.bool true) w:=by
 have hi:=aj5
 cases hq:prog.info? 47 with
 | none=>rw[hq] at hi;cases hi
 | some i =>
  exact run_eql_ptr_same w _ underlying78 hq
theorem apw {l:List HO} {i:Nat} {v:HV} {j:Nat} {x:HO} (h:l[j]?=some x):∃y,(aah l i v)[j]?=some y∧hdr y=hdr x:=by
 have hl:j<(aah l i v).length:=by rw[abr];exact(List.getElem?_eq_some_iff.1 h).1
 refine⟨(aah l i v)[j],List.getElem?_eq_getElem hl,?_⟩
 have e:=congrArg (·[j]?) (adx l i v)
 simp only[List.getElem?_map,List.getElem?_eq_getElem hl,h,Option.map_some,Option.some.injEq] at e
 exact e
def setO (P:PHp) (i:Nat) (v:HV):PHp:={ P with O:=aah P.O i v }
def SetO (B:Nat) (w:World) (hp mb:Nat) (P:PHp) (D:DataW Unit) (n j:Nat) (x:HO) (i:Nat) (v:HV) (vyo vyf voo vof vn:Value) (w':World):Prop :=
 ∃P'' vn',((P''=setO P i v∧(v.kind=4→x.noted=true∨∀i':Nat,i'<P.Y.length→v.n≠P.fy+2*i'))∨(v.kind=4∧(∃i':Nat,i'<P.Y.length∧v.n=P.fy+2*i')∧x.noted=false∧P''=noteP (setO P i v) j))∧HpG B w' hp mb P'' D n vyo vyf voo vof vn' ∧
  (∀k,k<w.heap.size→k≠hp→voo.ownBlock≠some k→vof.ownBlock≠some k→vn.ownBlock≠some k→w'.heap[k]?=w.heap[k]?)∧w.heap.size≤w'.heap.size∧w'.os=w.os∧w'.tape=w.tape∧w'.output=w.output∧(vn'.ownBlock=vn.ownBlock∨∀j,vn'.ownBlock=some j→w.heap.size≤j)
theorem apy {B:Nat} {w:World} {hp mb:Nat} {P:PHp} {D:DataW Unit} {n:Nat} {vyo vyf voo vof vn:Value} (h:HpG B w hp mb P D n vyo vyf voo vof vn) {j k:Nat} {x:HO} (hx:P.O[j]?=some x) (hk:k<x.fs.length) (v:HV) (hv:I64 v.n) (h4:v.kind≠4) :
  Calls prog 35 #[.pointer (some ⟨hp,0,none⟩),.int .i64 (P.fo+2*j),.int .i64 k,.agg #[.int .i64 v.kind,.int .i64 v.n,.string v.s]] w fun e w'=>e=.returned .nilIface∧SetO B w hp mb P D n j x (zm P.O j+k) v vyo vyf voo vof vn w':=by
 have H:=zc h
 have HX:=zc hx
 have HBA:=zc (fun o=>(Below.refl w.heap.size w).alloc (Nat.le_refl _) o)
 have q0:=aco
 have hj:=(List.getElem?_eq_some_iff.1 hx).1
 have ha:I64 (P.fo+2*j):=by
  have h1:=h.small.o0
  have h2:=h.small.o1
  exact⟨by omega,by omega⟩
 have HJ:=zc hj
 have HA:=zc ha
 have HVI:=zc hv
 have H4:=zc h4
 obtain⟨u,hu⟩:∃u,x.fs[k]?=some u:=⟨x.fs[k],List.getElem?_eq_getElem hk⟩
 have hget:acx (some (zm P.O j,x)) k=.tuple #[.agg #[.int .i64 u.kind,.int .i64 u.n,.string u.s],.nilIface]:=by simp[acx,hu]
 have HU:=zc hu
 have hbl:=ach hx
 have hk2:(k:Int)<(x.fs.length:Int):=by omega
 clear h hx hj ha hv hu h4
 go_enter func35,ntmps35
 go_wp2_with fail
 refine(aeh ((za H).keep (za HBA _)).at' (za H).small (za H).few (za HA)).mono ?_
 rintro e w1 ⟨r,hr1,rfl,hb1⟩
 obtain rfl:=afz (za H).small (za HJ) hr1
 rw[aj7 (za HX),hget]
 have HB1:=zc ((za HBA _).trans (hb1.mono (by simp)))
 have hv:=(hb1.block w.heap.size (by simp)).trans (aan w _)
 have v0:∀o,(w1.alloc o).cell? ⟨w.heap.size,0,none⟩=some (.int .i64 v.kind):=aac (zd hv 0)
 have v1:∀o,(w1.alloc o).cell? ⟨w.heap.size,1,none⟩=some (.int .i64 v.n):=aac (zd hv 1)
 have HB2:Hid (∀o,Below w.heap.size w (w1.alloc o)):=fun o=>(za HB1).alloc (za HB1).size o
 have HV2:Hid (∀o,(w1.alloc o).heap[w.heap.size]?=_):=fun o=>(Below.heap_alloc _ _ _ (hlt hv)).trans hv
 clear hb1 hv hr1 hget
 have h42:(v.kind==4)=false:=by simpa using za H4
 go_wp2_with fail
 refine(aeg ((za H).keep (za HB2 _)).at' (za H).small (za HA)).mono ?_
 rintro e w4 ⟨r4,hr4,rfl,hb4⟩
 obtain rfl:=afz (za H).small (za HJ) hr4
 have HB4:=zc ((za HB2 _).trans (hb4.mono (za HB2 _).size))
 have HV4:=zc ((hb4.block w.heap.size (hlt (za HV2 _))).trans (za HV2 _))
 clear hb4 hr4 v0 v1
 simp only[adm]
 go_wp2_with fail
 have HV5:Hid (w4.drew.heap[w.heap.size]?=_):=za HV4
 have HB5:=zc (Below.drew (za HB4))
 refine wp_region_held_drew (S:=(fun w'=>w'.cell? ⟨w.heap.size,0,none⟩=some (.int .i64 v.kind)∧w'.cell? ⟨w.heap.size,1,none⟩=some (.int .i64 v.n)∧w'.cell? ⟨w.heap.size,2,none⟩=some (.string v.s))) (by kernel_rfl) ⟨zd (za HV5) 0,zd (za HV5) 1,zd (za HV5) 2⟩ (fun hHeld=>?_)
 refine wpAnyH_take (i:=0) (oi:={ dst:=some 40,op:=_,type:=_,pos:=_,after:=_,guard:=_ }) (v:=?_) rfl (by kernel_rfl) (by kernel_rfl) (by kernel_rfl) (fun _ _ _ h=>h) (Or.inl ⟨by rfl,?_⟩) (by assumption) ?_
 case refine_2 =>
  intro w hSw
  try dsimp only at hSw
  go_simp
  try with_reducible rfl
 simp only[Act.put,sA,sB,sC]
 refine wpAnyH_take (i:=1) (oi:={ dst:=some 41,op:=_,type:=_,pos:=_,after:=_,guard:=_ }) (v:=?_) rfl (by kernel_rfl) (by kernel_rfl) (by kernel_rfl) (fun _ _ _ h=>h) (Or.inl ⟨by rfl,?_⟩) (by assumption) ?_
 case refine_2 =>
  intro w hSw
  try dsimp only at hSw
  go_simp
  try with_reducible rfl
 simp only[Act.put,sA,sB,sC]
 refine wpAnyH_take (i:=3) (oi:={ dst:=some 43,op:=_,type:=_,pos:=_,after:=_,guard:=_ }) (v:=?_) rfl (by kernel_rfl) (by kernel_rfl) (by kernel_rfl) (fun _ _ _ h=>h) (Or.inl ⟨by rfl,?_⟩) (by assumption) ?_
 case refine_2 =>
  intro w hSw
  try dsimp only at hSw
  go_simp
  try with_reducible rfl
 simp only[Act.put,sA,sB,sC]
 refine wpAnyH_take (i:=4) (oi:={ dst:=some 44,op:=_,type:=_,pos:=_,after:=_,guard:=_ }) (v:=?_) rfl (by kernel_rfl) (by kernel_rfl) (by kernel_rfl) (fun _ _ _ h=>h) (Or.inl ⟨by rfl,?_⟩) (by assumption) ?_
 case refine_2 =>
  intro w hSw
  try dsimp only at hSw
  go_simp
  try with_reducible rfl
 simp only[Act.put,sA,sB,sC]
 refine wpAnyH_ready (rs:=[2]) (by kernel_rfl) (by simp) ?_
 refine AllReadyH.cons (o:={ dst:=some 42,op:=_,type:=_,pos:=_,after:=_,guard:=_ }) rfl (fun K hK=>?_) AllReadyH.nil
 go_simp
 refine(ad4 (((za H).keep (za HB5)).at'.old (za H).few) (za HX)).mono ?_
 rintro e w6 ⟨hb6,g',cap',rfl,hcap,hg⟩
 obtain⟨g,cap,hvf,rfl,rfl⟩:=hg (by omega)
 have HB6:=zc ((za HB5).trans (hb6.mono (za HB5).size))
 have hv6:=(hb6.block w.heap.size (hlt (za HV5))).trans (za HV5)
 have H6:=zc ((za H).keep (za HB6))
 obtain⟨z0,z1,z2⟩:=((za H6).at'.old (za H).few).fld (za HX) (za HU) hvf
 have hob:vof.ownBlock=some g:=by rw[hvf];rfl
 have hgl:g<w.heap.size:=(zu (za H).at'.of' hob).lt
 obtain⟨gcs,gfr,hgb⟩:∃cs fr,w6.heap[g]?=some (.cells cs 69 fr):=by
  obtain⟨_,_,cs,q⟩:=zp (za H6).at'.of' g hob
  exact⟨cs,_,q⟩
 obtain rfl:gfr=(0,0):=by
  obtain⟨_,_,cs,q⟩:=zp (za H6).at'.of' g hob
  rw[q] at hgb
  cases hgb
  rfl
 have y0:=zt hgb (zm P.O j*3+k*3)
 have y1:=zt hgb (zm P.O j*3+k*3+1)
 have y2:=zt hgb (zm P.O j*3+k*3+2)
 have H7:Hid (HpG B (((w6.setCell ⟨g,zm P.O j*3+k*3,none⟩ (.int .i64 v.kind)).setCell ⟨g,zm P.O j*3+k*3+1,none⟩ (.int .i64 v.n)).setCell ⟨g,zm P.O j*3+k*3+2,none⟩ (.string v.s)) hp mb { P with O:=aah P.O (zm P.O j+k) v } D n vyo vyf voo vof vn):=by
  have q:=(za H6).ofieldSet hvf (i:=zm P.O j+k) (by omega) v (za HVI)
  rw[show (zm P.O j+k)*3=zm P.O j*3+k*3 by omega] at q
  exact q
 have s6:(((w6.setCell ⟨g,zm P.O j*3+k*3,none⟩ (.int .i64 v.kind)).setCell ⟨g,zm P.O j*3+k*3+1,none⟩ (.int .i64 v.n)).setCell ⟨g,zm P.O j*3+k*3+2,none⟩ (.string v.s)).heap[w.heap.size]?=_:=(zo _ (by omega)).trans ((zo _ (by omega)).trans ((zo _ (by omega)).trans hv6))
 have HK7:Hid (∀q,q≠g→(((w6.setCell ⟨g,zm P.O j*3+k*3,none⟩ (.int .i64 v.kind)).setCell ⟨g,zm P.O j*3+k*3+1,none⟩ (.int .i64 v.n)).setCell ⟨g,zm P.O j*3+k*3+2,none⟩ (.string v.s)).heap[q]?=w6.heap[q]?):=fun q hq=>by rw[zo _ hq,zo _ hq,zo _ hq]
 have HZ7:Hid ((((w6.setCell ⟨g,zm P.O j*3+k*3,none⟩ (.int .i64 v.kind)).setCell ⟨g,zm P.O j*3+k*3+1,none⟩ (.int .i64 v.n)).setCell ⟨g,zm P.O j*3+k*3+2,none⟩ (.string v.s)).heap.size=w6.heap.size∧(((w6.setCell ⟨g,zm P.O j*3+k*3,none⟩ (.int .i64 v.kind)).setCell ⟨g,zm P.O j*3+k*3+1,none⟩ (.int .i64 v.n)).setCell ⟨g,zm P.O j*3+k*3+2,none⟩ (.string v.s)).os=w6.os∧(((w6.setCell ⟨g,zm P.O j*3+k*3,none⟩ (.int .i64 v.kind)).setCell ⟨g,zm P.O j*3+k*3+1,none⟩ (.int .i64 v.n)).setCell ⟨g,zm P.O j*3+k*3+2,none⟩ (.string v.s)).tape=w6.tape∧(((w6.setCell ⟨g,zm P.O j*3+k*3,none⟩ (.int .i64 v.kind)).setCell ⟨g,zm P.O j*3+k*3+1,none⟩ (.int .i64 v.n)).setCell ⟨g,zm P.O j*3+k*3+2,none⟩ (.string v.s)).output=w6.output):=⟨by simp[World.setCell],rfl,rfl,rfl⟩
 have HOB:=zc hob
 clear hb6 hgb hg hcap hvf hob
 refine hK.out _ _ ⟨zd hv6 0,zd hv6 1,zd hv6 2⟩ (fun hHeld6=>?_)
 clear hK K hv6
 refine wpAnyH_take (i:=5) (oi:={ dst:=some 45,op:=_,type:=_,pos:=_,after:=_,guard:=_ }) (v:=?_) rfl (by kernel_rfl) (by kernel_rfl) (by kernel_rfl) (fun _ _ _ h=>h) (Or.inl ⟨by rfl,?_⟩) (by assumption) ?_
 case refine_2 =>
  intro w hSw
  try dsimp only at hSw
  go_simp
  try with_reducible rfl
 simp only[Act.put,sA,sB,sC]
 refine wpAnyH_ready (rs:=[6]) (by kernel_rfl) (by simp) ?_
 refine AllReadyH.cons (o:={ dst:=none,op:=_,type:=_,pos:=_,after:=_,guard:=_ }) rfl (fun K hK=>?_) AllReadyH.nil
 go_simp
 refine hK.out _ _ ⟨zd s6 0,zd s6 1,zd s6 2⟩ (fun hHeld7=>?_)
 clear hK K
 refine wpAnyH_done (by kernel_rfl) ?_ _
 have hpo:=aia (za H7).at'.blk
 have s60:=zd s6 0
 have s61:=zd s6 1
 go_wp2_with fail
 go_ret
 have zz:=(za HB6).size
 refine⟨rfl,_,vn,Or.inl ⟨rfl,fun e=>absurd e (za H4)⟩,za H7,fun q hq _ _ hne _=>?_,?_,?_,?_,?_,Or.inl rfl⟩
 ·rw[za HK7 q (fun e=>hne (by rw[e];exact za HOB))]
  exact(za HB6).block q hq
 ·rw[(za HZ7).1];exact zz
 ·exact(za HZ7).2.1.trans (za HB6).os
 ·exact(za HZ7).2.2.1.trans (za HB6).tape
 ·exact(za HZ7).2.2.2.trans (za HB6).output
theorem apz {B:Nat} {w:World} {hp mb:Nat} {P:PHp} {D:DataW Unit} {n:Nat} {vyo vyf voo vof vn:Value} (h:HpG B w hp mb P D n vyo vyf voo vof vn) {j k:Nat} {x:HO} (hx:P.O[j]?=some x) (hk:k<x.fs.length) (v:HV) (hv:I64 v.n) (h4:v.kind=4) (hr:∀r,Found P v.n r→∃b y,aa5 P r=some (b,y)∧y.kind≠0) (hnl:P.noted.length≤1000000) :
  Calls prog 35 #[.pointer (some ⟨hp,0,none⟩),.int .i64 (P.fo+2*j),.int .i64 k,.agg #[.int .i64 v.kind,.int .i64 v.n,.string v.s]] w fun e w'=>e=.returned .nilIface∧SetO B w hp mb P D n j x (zm P.O j+k) v vyo vyf voo vof vn w':=by
 have H:=zc h
 have HX:=zc hx
 have HBA:=zc (fun o=>(Below.refl w.heap.size w).alloc (Nat.le_refl _) o)
 have q0:=aco
 have hj:=(List.getElem?_eq_some_iff.1 hx).1
 have ha:I64 (P.fo+2*j):=by
  have h1:=h.small.o0
  have h2:=h.small.o1
  exact⟨by omega,by omega⟩
 have HJ:=zc hj
 have HA:=zc ha
 have HVI:=zc hv
 have H4:=zc h4
 obtain⟨u,hu⟩:∃u,x.fs[k]?=some u:=⟨x.fs[k],List.getElem?_eq_getElem hk⟩
 have hget:acx (some (zm P.O j,x)) k=.tuple #[.agg #[.int .i64 u.kind,.int .i64 u.n,.string u.s],.nilIface]:=by simp[acx,hu]
 have HU:=zc hu
 have hbl:=ach hx
 have hk2:(k:Int)<(x.fs.length:Int):=by omega
 clear h hx hj ha hv hu h4
 go_enter func35,ntmps35
 go_wp2_with fail
 refine(aeh ((za H).keep (za HBA _)).at' (za H).small (za H).few (za HA)).mono ?_
 rintro e w1 ⟨r,hr1,rfl,hb1⟩
 obtain rfl:=afz (za H).small (za HJ) hr1
 rw[aj7 (za HX),hget]
 have HB1:=zc ((za HBA _).trans (hb1.mono (by simp)))
 have hv:=(hb1.block w.heap.size (by simp)).trans (aan w _)
 have v0:∀o,(w1.alloc o).cell? ⟨w.heap.size,0,none⟩=some (.int .i64 v.kind):=aac (zd hv 0)
 have v1:∀o,(w1.alloc o).cell? ⟨w.heap.size,1,none⟩=some (.int .i64 v.n):=aac (zd hv 1)
 have HB2:Hid (∀o,Below w.heap.size w (w1.alloc o)):=fun o=>(za HB1).alloc (za HB1).size o
 have HV2:Hid (∀o,(w1.alloc o).heap[w.heap.size]?=_):=fun o=>(Below.heap_alloc _ _ _ (hlt hv)).trans hv
 clear hb1 hv hr1 hget
 rw[za H4] at v0
 have HR:=zc hr
 clear hr
 go_wp2_with fail
 refine(akp ((za H).keep (za HB2 _)).at' (za H).small (za H).few (za HVI)).mono ?_
 rintro e w3 ⟨r,hr3,rfl,hb3⟩
 obtain⟨b,y,hy,hyk⟩:=za HR r hr3
 rw[hy]
 dsimp only
 have hyk2:(y.kind==0)=false:=by simpa using hyk
 have HB3:=zc ((za HB2 _).trans (hb3.mono (za HB2 _).size))
 have HV3:=zc ((hb3.block w.heap.size (hlt (za HV2 _))).trans (za HV2 _))
 clear hb3 v0 v1 hr3 hy
 go_wp2_with fail
 refine(aeg ((za H).keep (za HB3)).at' (za H).small (za HA)).mono ?_
 rintro e w4 ⟨r4,hr4,rfl,hb4⟩
 obtain rfl:=afz (za H).small (za HJ) hr4
 have HB4:=zc ((za HB3).trans (hb4.mono (za HB3).size))
 have HV4:=zc ((hb4.block w.heap.size (hlt (za HV3))).trans (za HV3))
 clear hb4 hr4
 simp only[adm]
 go_wp2_with fail
 have HV5:Hid (w4.drew.heap[w.heap.size]?=_):=za HV4
 have HB5:=zc (Below.drew (za HB4))
 refine wp_region_held_drew (S:=(fun w'=>w'.cell? ⟨w.heap.size,0,none⟩=some (.int .i64 v.kind)∧w'.cell? ⟨w.heap.size,1,none⟩=some (.int .i64 v.n)∧w'.cell? ⟨w.heap.size,2,none⟩=some (.string v.s))) (by kernel_rfl) ⟨zd (za HV5) 0,zd (za HV5) 1,zd (za HV5) 2⟩ (fun hHeld=>?_)
 refine wpAnyH_take (i:=0) (oi:={ dst:=some 40,op:=_,type:=_,pos:=_,after:=_,guard:=_ }) (v:=?_) rfl (by kernel_rfl) (by kernel_rfl) (by kernel_rfl) (fun _ _ _ h=>h) (Or.inl ⟨by rfl,?_⟩) (by assumption) ?_
 case refine_2 =>
  intro w hSw
  try dsimp only at hSw
  go_simp
  try with_reducible rfl
 simp only[Act.put,sA,sB,sC]
 refine wpAnyH_take (i:=1) (oi:={ dst:=some 41,op:=_,type:=_,pos:=_,after:=_,guard:=_ }) (v:=?_) rfl (by kernel_rfl) (by kernel_rfl) (by kernel_rfl) (fun _ _ _ h=>h) (Or.inl ⟨by rfl,?_⟩) (by assumption) ?_
 case refine_2 =>
  intro w hSw
  try dsimp only at hSw
  go_simp
  try with_reducible rfl
 simp only[Act.put,sA,sB,sC]
 refine wpAnyH_take (i:=3) (oi:={ dst:=some 43,op:=_,type:=_,pos:=_,after:=_,guard:=_ }) (v:=?_) rfl (by kernel_rfl) (by kernel_rfl) (by kernel_rfl) (fun _ _ _ h=>h) (Or.inl ⟨by rfl,?_⟩) (by assumption) ?_
 case refine_2 =>
  intro w hSw
  try dsimp only at hSw
  go_simp
  try with_reducible rfl
 simp only[Act.put,sA,sB,sC]
 refine wpAnyH_take (i:=4) (oi:={ dst:=some 44,op:=_,type:=_,pos:=_,after:=_,guard:=_ }) (v:=?_) rfl (by kernel_rfl) (by kernel_rfl) (by kernel_rfl) (fun _ _ _ h=>h) (Or.inl ⟨by rfl,?_⟩) (by assumption) ?_
 case refine_2 =>
  intro w hSw
  try dsimp only at hSw
  go_simp
  try with_reducible rfl
 simp only[Act.put,sA,sB,sC]
 refine wpAnyH_ready (rs:=[2]) (by kernel_rfl) (by simp) ?_
 refine AllReadyH.cons (o:={ dst:=some 42,op:=_,type:=_,pos:=_,after:=_,guard:=_ }) rfl (fun K hK=>?_) AllReadyH.nil
 go_simp
 refine(ad4 (((za H).keep (za HB5)).at'.old (za H).few) (za HX)).mono ?_
 rintro e w6 ⟨hb6,g',cap',rfl,hcap,hg⟩
 obtain⟨g,cap,hvf,rfl,rfl⟩:=hg (by omega)
 have HB6:=zc ((za HB5).trans (hb6.mono (za HB5).size))
 have hv6:=(hb6.block w.heap.size (hlt (za HV5))).trans (za HV5)
 have H6:=zc ((za H).keep (za HB6))
 obtain⟨z0,z1,z2⟩:=((za H6).at'.old (za H).few).fld (za HX) (za HU) hvf
 have hob:vof.ownBlock=some g:=by rw[hvf];rfl
 have hgl:g<w.heap.size:=(zu (za H).at'.of' hob).lt
 obtain⟨gcs,gfr,hgb⟩:∃cs fr,w6.heap[g]?=some (.cells cs 69 fr):=by
  obtain⟨_,_,cs,q⟩:=zp (za H6).at'.of' g hob
  exact⟨cs,_,q⟩
 obtain rfl:gfr=(0,0):=by
  obtain⟨_,_,cs,q⟩:=zp (za H6).at'.of' g hob
  rw[q] at hgb
  cases hgb
  rfl
 have y0:=zt hgb (zm P.O j*3+k*3)
 have y1:=zt hgb (zm P.O j*3+k*3+1)
 have y2:=zt hgb (zm P.O j*3+k*3+2)
 have H7:Hid (HpG B (((w6.setCell ⟨g,zm P.O j*3+k*3,none⟩ (.int .i64 v.kind)).setCell ⟨g,zm P.O j*3+k*3+1,none⟩ (.int .i64 v.n)).setCell ⟨g,zm P.O j*3+k*3+2,none⟩ (.string v.s)) hp mb { P with O:=aah P.O (zm P.O j+k) v } D n vyo vyf voo vof vn):=by
  have q:=(za H6).ofieldSet hvf (i:=zm P.O j+k) (by omega) v (za HVI)
  rw[show (zm P.O j+k)*3=zm P.O j*3+k*3 by omega] at q
  exact q
 have s6:(((w6.setCell ⟨g,zm P.O j*3+k*3,none⟩ (.int .i64 v.kind)).setCell ⟨g,zm P.O j*3+k*3+1,none⟩ (.int .i64 v.n)).setCell ⟨g,zm P.O j*3+k*3+2,none⟩ (.string v.s)).heap[w.heap.size]?=_:=(zo _ (by omega)).trans ((zo _ (by omega)).trans ((zo _ (by omega)).trans hv6))
 have HK7:Hid (∀q,q≠g→(((w6.setCell ⟨g,zm P.O j*3+k*3,none⟩ (.int .i64 v.kind)).setCell ⟨g,zm P.O j*3+k*3+1,none⟩ (.int .i64 v.n)).setCell ⟨g,zm P.O j*3+k*3+2,none⟩ (.string v.s)).heap[q]?=w6.heap[q]?):=fun q hq=>by rw[zo _ hq,zo _ hq,zo _ hq]
 have HZ7:Hid ((((w6.setCell ⟨g,zm P.O j*3+k*3,none⟩ (.int .i64 v.kind)).setCell ⟨g,zm P.O j*3+k*3+1,none⟩ (.int .i64 v.n)).setCell ⟨g,zm P.O j*3+k*3+2,none⟩ (.string v.s)).heap.size=w6.heap.size∧(((w6.setCell ⟨g,zm P.O j*3+k*3,none⟩ (.int .i64 v.kind)).setCell ⟨g,zm P.O j*3+k*3+1,none⟩ (.int .i64 v.n)).setCell ⟨g,zm P.O j*3+k*3+2,none⟩ (.string v.s)).os=w6.os∧(((w6.setCell ⟨g,zm P.O j*3+k*3,none⟩ (.int .i64 v.kind)).setCell ⟨g,zm P.O j*3+k*3+1,none⟩ (.int .i64 v.n)).setCell ⟨g,zm P.O j*3+k*3+2,none⟩ (.string v.s)).tape=w6.tape∧(((w6.setCell ⟨g,zm P.O j*3+k*3,none⟩ (.int .i64 v.kind)).setCell ⟨g,zm P.O j*3+k*3+1,none⟩ (.int .i64 v.n)).setCell ⟨g,zm P.O j*3+k*3+2,none⟩ (.string v.s)).output=w6.output):=⟨by simp[World.setCell],rfl,rfl,rfl⟩
 have HOB:=zc hob
 clear hb6 hgb hg hcap hvf hob
 refine hK.out _ _ ⟨zd hv6 0,zd hv6 1,zd hv6 2⟩ (fun hHeld6=>?_)
 clear hK K hv6
 refine wpAnyH_take (i:=5) (oi:={ dst:=some 45,op:=_,type:=_,pos:=_,after:=_,guard:=_ }) (v:=?_) rfl (by kernel_rfl) (by kernel_rfl) (by kernel_rfl) (fun _ _ _ h=>h) (Or.inl ⟨by rfl,?_⟩) (by assumption) ?_
 case refine_2 =>
  intro w hSw
  try dsimp only at hSw
  go_simp
  try with_reducible rfl
 simp only[Act.put,sA,sB,sC]
 refine wpAnyH_ready (rs:=[6]) (by kernel_rfl) (by simp) ?_
 refine AllReadyH.cons (o:={ dst:=none,op:=_,type:=_,pos:=_,after:=_,guard:=_ }) rfl (fun K hK=>?_) AllReadyH.nil
 go_simp
 refine hK.out _ _ ⟨zd s6 0,zd s6 1,zd s6 2⟩ (fun hHeld7=>?_)
 clear hK K
 refine wpAnyH_done (by kernel_rfl) ?_ _
 have hpo:=aia (za H7).at'.blk
 have s60:=zd s6 0
 have s61:=zd s6 1
 have h44:v.kind=4:=za H4
 have HNL:=zc hnl
 have h45:=zc h44
 have h42:(v.kind==4)=true:=by simpa using h44
 clear h44
 generalize hWW:((w6.setCell ⟨g,zm P.O j*3+k*3,none⟩ (.int .i64 v.kind)).setCell ⟨g,zm P.O j*3+k*3+1,none⟩ (.int .i64 v.n)).setCell ⟨g,zm P.O j*3+k*3+2,none⟩ (.string v.s)=WW at *
 go_wp2_with fail
 obtain⟨y,hy1,hy2⟩:=apw (i:=zm P.O j+k) (v:=v) (za HX)
 refine(apv (za H7) (j:=j) hy1 (za HVI) (za HNL)).mono ?_
 rintro e w8 ⟨rfl,hn8⟩
 have hyn:y.noted=x.noted:=by
  have:=congrArg (fun z=>z.2.2.2.2) hy2
  exact this
 have HN8:=zc hn8
 clear hn8
 go_wp2_with fail
 go_ret
 have zz:=(za HB6).size
 have z7:=(za HZ7).1
 refine⟨rfl,?_⟩
 rcases za HN8 with ⟨hyg,hnf,vn',q1,q2,q3,q4,q5,q6,q7⟩ | ⟨hno,hb8⟩
 ·refine⟨_,vn',Or.inr ⟨za h45,hyg,by rw[←hyn];exact hnf,rfl⟩,q1,fun q hq h1 h2 h3 h4=>?_,by omega,q4.trans ((za HZ7).2.1.trans (za HB6).os),q5.trans ((za HZ7).2.2.1.trans (za HB6).tape),q6.trans ((za HZ7).2.2.2.trans (za HB6).output),q7.imp id fun q j hj=>Nat.le_trans (by omega) (q j hj)⟩
  rw[q2 q (by omega) h1 h2 h4,za HK7 q (fun e=>h3 (by rw[e];exact za HOB))]
  exact(za HB6).block q hq
 ·refine⟨_,vn,Or.inl ⟨rfl,fun _=>by rw[←hyn];exact hno⟩,(za H7).keep hb8,fun q hq _ _ h3 _=>?_,Nat.le_trans (by omega) hb8.size,hb8.os.trans ((za HZ7).2.1.trans (za HB6).os),hb8.tape.trans ((za HZ7).2.2.1.trans (za HB6).tape),hb8.output.trans ((za HZ7).2.2.2.trans (za HB6).output),Or.inl rfl⟩
  rw[hb8.block q (by omega),za HK7 q (fun e=>h3 (by rw[e];exact za HOB))]
  exact(za HB6).block q hq
end
section
open Go.RowKit Go.Maps
theorem aiz (b:Bool):∀(l:List HO) (j t:Nat),(aam b l j).take t=aam b (l.take t) j
 | [],_,t=>by simp[aam]
 | x :: r,j,0=>by cases j <;> simp[aam]
 | x :: r,0,t+1=>rfl
 | x :: r,j+1,t+1=>by
  show x :: (aam b r j).take t=x :: aam b (r.take t) j
  rw[aiz b r j t]
theorem alx (b:Bool) (l:List HO) (j t:Nat):zm (aam b l j) t=zm l t:=by
 unfold zm
 rw[aiz,ack]
theorem MInv.setLow {k0 s:Nat} {M:MS} (h:MInv k0 s M) (hb:∀t,k0≤t→s≤zm M.T t) {i:Nat} (hi:i<s) (v:HV):MInv k0 s { M with T:=aah M.T i v }:=by
 have hh:(aah M.T i v).map hdr=M.T.map hdr:=adx _ _ _
 have hbg:∀t,zm (aah M.T i v) t=zm M.T t:=ag9 hh
 have hal:zg (aah M.T i v)=(zg M.T).set i v:=abw _ _ _
 have hl:(aah M.T i v).length=M.T.length:=abr _ _ _
 refine⟨h.full,h.ft,by show k0≤(aah M.T i v).length;rw[hl];exact h.kle,by show s≤(zg (aah M.T i v)).length;rw[hal,List.length_set];exact h.sle,fun q hq=>?_,h.inj,fun t y ht hy=>?_,fun t q x k u ht htl hg hx hu=>?_⟩
 ·obtain⟨t,h1,h2,h3⟩:=h.conv q hq
  exact⟨t,h1,by show t<(aah M.T i v).length;rw[hl];exact h2,h3⟩
 ·have hy:(aah M.T i v)[t]?=some y:=hy
  obtain⟨z,hz,e⟩:∃z,M.T[t]?=some z∧hdr y=hdr z:=by
   have ht2:t<M.T.length:=by rw[←hl];exact(List.getElem?_eq_some_iff.1 hy).1
   refine⟨M.T[t],List.getElem?_eq_getElem ht2,?_⟩
   have e:=congrArg (·[t]?) hh
   simp only[List.getElem?_map,hy,List.getElem?_eq_getElem ht2,Option.map_some,Option.some.injEq] at e
   exact e
  obtain⟨q,x,a1,a2,a3⟩:=h.orig t z ht hz
  exact⟨q,x,a1,a2,e.trans a3⟩
 ·have htl:t<(aah M.T i v).length:=htl
  rw[hl] at htl
  obtain⟨a1,a2⟩:=h.flds t q x k u ht htl hg hx hu
  have hne:i≠zm M.T t+k:=by have:=hb t ht;omega
  refine⟨fun hlt=>?_,fun hge=>?_⟩
  ·have hlt:zm (aah M.T i v) t+k<s:=hlt
   show (zg (aah M.T i v))[zm (aah M.T i v) t+k]?=_∧_
   rw[hbg] at hlt ⊢
   rw[hal,List.getElem?_set_ne hne]
   exact a1 hlt
  ·have hge:s≤zm (aah M.T i v) t+k:=hge
   show (zg (aah M.T i v))[zm (aah M.T i v) t+k]?=_
   rw[hbg] at hge ⊢
   rw[hal,List.getElem?_set_ne hne]
   exact a2 hge
theorem MInv.mark {k0 s:Nat} {M:MS} (h:MInv k0 s M) (b:Bool) {j:Nat} (hj:j<k0):MInv k0 s { M with T:=aam b M.T j }:=by
 have hl:=acn b M.T j
 have hal:=ack b M.T j
 have hbg:=alx b M.T j
 refine⟨h.full,h.ft,by show k0≤(aam b M.T j).length;rw[hl];exact h.kle,by show s≤(zg (aam b M.T j)).length;rw[hal];exact h.sle,fun q hq=>?_,h.inj,fun t y ht hy=>?_,fun t q x k u ht htl hg hx hu=>?_⟩
 ·obtain⟨t,h1,h2,h3⟩:=h.conv q hq
  exact⟨t,h1,by show t<(aam b M.T j).length;rw[hl];exact h2,h3⟩
 ·have hy:(aam b M.T j)[t]?=some y:=hy
  rw[ae4,if_neg (by omega)] at hy
  exact h.orig t y ht hy
 ·have htl:t<(aam b M.T j).length:=htl
  rw[hl] at htl
  have:=h.flds t q x k u ht htl hg hx hu
  show (zm (aam b M.T j) t+k<s→(zg (aam b M.T j))[zm (aam b M.T j) t+k]?=_∧_)∧(s≤zm (aam b M.T j) t+k→(zg (aam b M.T j))[zm (aam b M.T j) t+k]?=_)
  rw[hbg,hal]
  exact this
def acy (x:HO):Int×Int×Int×Nat:=(x.kind,x.tag,x.id,x.fs.length)
theorem ap0 {l l':List HO} (h:l.map hdr=l'.map hdr):l.map acy=l'.map acy:=by
 have e:∀l:List HO,l.map acy=(l.map hdr).map fun z=>(z.1,z.2.1,z.2.2.1,z.2.2.2.1):=fun l=>by rw[List.map_map];rfl
 rw[e,e,h]
theorem ai0 (b:Bool):∀(l:List HO) (j:Nat),(aam b l j).map acy=l.map acy
 | [],_=>rfl
 | x :: r,0=>rfl
 | x :: r,j+1=>by
  show acy x :: (aam b r j).map acy=acy x :: r.map acy
  rw[ai0 b r j]
theorem am3 {l l':List HO} (h:l.map acy=l'.map acy) (t:Nat):zm l t=zm l' t:=by
 have e:∀(l:List HO),(zg l).length=((l.map acy).map fun z=>z.2.2.2).sum:=fun l=>by
  rw[agq,List.map_map,List.map_map];rfl
 unfold zm
 rw[e,e,List.map_take,h,←List.map_take]
structure NI (O:List HO) (L0:List PL) (ft:Int) (Z U:Nat→Prop) (M:MS):Prop where
 inv:MInv O.length (zg O).length M
 lat:Later L0 M.L
 ft:M.ft=ft
 hd:∃r,M.T.map acy=O.map acy++r
 nt:∀t x y,O[t]?=some x→M.T[t]?=some y→(U t→y.noted=false)∧(¬U t→y.noted=x.noted)
 fl:∀i v,(zg O)[i]?=some v→(Z i→(zg M.T)[i]?=some (phi M.L v)∧aa0 M.L v)∧(¬Z i→(zg M.T)[i]?=some v)
 on:∀q,aaf M.L q≠0→∃i v,Z i∧(zg O)[i]?=some v∧v.kind=4∧aab L0 0 v.n=some q
theorem aj8 {M:MS} (hf:Full M.L) (v:HV) {q:Nat×Nat} (h:aaf (aaj M v).1.L q≠0):aaf M.L q≠0∨(v.kind=4∧aab M.L 0 v.n=some q):=by
 revert h
 unfold aaj
 split
 ·exact Or.inl
 ·rename_i hk
  split
  ·exact Or.inl
  ·rename_i q0 hq
   split
   ·exact Or.inl
   ·split
    ·exact Or.inl
    ·rename_i x hx
     intro hg
     have hg':aaf (aar M.L q0 (M.ft+2*M.T.length)) q≠0:=hg
     rw[ago hf hx] at hg'
     by_cases e:q=q0
     ·exact Or.inr ⟨by simpa using hk,e ▸ hq⟩
     ·rw[if_neg e] at hg'
      exact Or.inl hg'
theorem NI.beg {O:List HO} {L0:List PL} {ft:Int} {Z U:Nat→Prop} {M:MS} (h:NI O L0 ft Z U M) {t:Nat} (ht:t≤O.length):zm M.T t=zm O t:=by
 obtain⟨r,e⟩:=h.hd
 have hl:O.length≤M.T.length:=h.inv.kle
 have e2:(M.T.take O.length).map acy=O.map acy:=by rw[List.map_take,e,List.take_left' (by simp)]
 have e3:zm M.T t=zm (M.T.take O.length) t:=by
  unfold zm
  rw[List.take_take,Nat.min_eq_left ht]
 rw[e3]
 exact am3 e2 t
theorem NI.low {O:List HO} {L0:List PL} {ft:Int} {Z U:Nat→Prop} {M:MS} (h:NI O L0 ft Z U M):∀t,O.length≤t→(zg O).length≤zm M.T t:=fun t ht=>by
 have e:zm M.T O.length=(zg O).length:=by
  rw[h.beg (Nat.le_refl _)]
  unfold zm
  rw[List.take_length]
 rw[←e]
 unfold zm
 have:M.T.take t=M.T.take O.length++(M.T.take t).drop O.length:=by
  have:=List.take_append_drop O.length (M.T.take t)
  rw[List.take_take,Nat.min_eq_left ht] at this
  exact this.symm
 rw[this]
 unfold zg
 rw[List.flatMap_append,List.length_append]
 omega
theorem NI.mark {O:List HO} {L0:List PL} {ft:Int} {Z U:Nat→Prop} {M:MS} (h:NI O L0 ft Z U M) {j:Nat} (hj:j<O.length):NI O L0 ft Z (fun t=>U t∨t=j) { M with T:=aam false M.T j }:=by
 refine⟨h.inv.mark false hj,h.lat,h.ft,?_,fun t x y hx hy=>?_,fun i v hv=>?_,h.on⟩
 ·obtain⟨r,e⟩:=h.hd
  exact⟨r,(ai0 false M.T j).trans e⟩
 ·have hy:(aam false M.T j)[t]?=some y:=hy
  rw[ae4] at hy
  by_cases ht:t=j
  ·rw[if_pos ht] at hy
   refine⟨fun _=>?_,fun hn=>absurd (Or.inr ht) hn⟩
   cases hz:M.T[t]? with
   | none=>rw[hz] at hy;cases hy
   | some z=>rw[hz] at hy;cases hy;rfl
  ·rw[if_neg ht] at hy
   obtain⟨a1,a2⟩:=h.nt t x y hx hy
   exact⟨fun hu=>a1 (hu.resolve_right ht),fun hu=>a2 (fun q=>hu (Or.inl q))⟩
 ·have:=h.fl i v hv
  show (Z i→(zg (aam false M.T j))[i]?=_∧_)∧(¬Z i→(zg (aam false M.T j))[i]?=_)
  rw[ack]
  exact this
theorem NI.field {O:List HO} {L0:List PL} {ft:Int} {Z U:Nat→Prop} {M:MS} (h:NI O L0 ft Z U M) {i:Nat} (hi:i<(zg O).length) (hz:¬Z i):NI O L0 ft (fun k=>Z k∨k=i) U (aby M i):=by
 obtain⟨v,hv⟩:∃v,(zg O)[i]?=some v:=⟨_,List.getElem?_eq_getElem hi⟩
 have hvM:=(h.fl i v hv).2 hz
 rw[acm hvM]
 have hon:∀q,aaf (aaj M v).1.L q≠0→∃k u,(Z k∨k=i)∧(zg O)[k]?=some u∧u.kind=4∧aab L0 0 u.n=some q:=fun q hq=>by
  rcases aj8 h.inv.full v hq with a | ⟨a,b⟩
  ·obtain⟨k,u,c1,c2⟩:=h.on q a
   exact⟨k,u,Or.inl c1,c2⟩
  ·exact⟨i,v,Or.inr rfl,hv,a,by rw[←h.lat.leads];exact b⟩
 obtain⟨h1,lat,e2,wn,r,hT⟩:=h.inv.move v
 have hft:=agp M v
 have low:∀t,O.length≤t→(zg O).length≤zm (aaj M v).1.T t:=fun t ht=>by
  have hlo:=h.low O.length (Nat.le_refl _)
  have hk:=h.inv.kle
  rw[hT]
  by_cases htl:t≤M.T.length
  ·rw[aha _ _ htl];exact h.low t ht
  ·unfold zm
   rw[List.take_append,show ∀a b:List HO,zg (a++b)=zg a++zg b from fun a b=>by simp[zg],List.length_append,List.take_of_length_le (by omega)]
   have:=h.inv.sle
   omega
 generalize (aaj M v).1=M1 at *
 generalize (aaj M v).2=v' at *
 have hal:zg (aah M1.T i v')=(zg M1.T).set i v':=abw _ _ _
 have hi1:i<(zg M.T).length:=(List.getElem?_eq_some_iff.1 hvM).1
 have hin:∀k,k<(zg M.T).length→(zg M1.T)[k]?=(zg M.T)[k]?:=fun k hk=>by
  rw[hT,show zg (M.T++r)=zg M.T++zg r by simp[zg],List.getElem?_append_left hk]
 have hle:(zg M.T).length≤(zg M1.T).length:=by rw[hT,show zg (M.T++r)=zg M.T++zg r by simp[zg],List.length_append];omega
 refine⟨h1.setLow low hi v',h.lat.trans lat,hft.trans h.ft,?_,fun t x y hx hy=>?_,fun k u hu=>?_,hon⟩
 ·obtain⟨r0,e⟩:=h.hd
  refine⟨r0++r.map acy,?_⟩
  show (aah M1.T i v').map acy=_
  rw[ap0 (adx M1.T i v'),hT,List.map_append,e,List.append_assoc]
 ·have hy:(aah M1.T i v')[t]?=some y:=hy
  have ht:t<O.length:=(List.getElem?_eq_some_iff.1 hx).1
  have hk:=h.inv.kle
  obtain⟨z,hz1,hz2⟩:∃z,M.T[t]?=some z∧hdr y=hdr z:=by
   have ht2:t<M.T.length:=by omega
   refine⟨M.T[t],List.getElem?_eq_getElem ht2,?_⟩
   have e:=congrArg (·[t]?) (adx M1.T i v')
   have e1:M1.T[t]?=some M.T[t]:=by rw[hT,List.getElem?_append_left ht2,List.getElem?_eq_getElem ht2]
   simp only[List.getElem?_map,hy,e1,Option.map_some,Option.some.injEq] at e
   exact e
  have hn:y.noted=z.noted:=congrArg (fun q=>q.2.2.2.2) hz2
  rw[hn]
  exact h.nt t x z hx hz1
 ·have hk:k<(zg O).length:=(List.getElem?_eq_some_iff.1 hu).1
  have hkM:k<(zg M.T).length:=Nat.lt_of_lt_of_le hk h.inv.sle
  show ((Z k∨k=i)→(zg (aah M1.T i v'))[k]?=some (phi M1.L u)∧aa0 M1.L u)∧(¬(Z k∨k=i)→(zg (aah M1.T i v'))[k]?=some u)
  rw[hal]
  by_cases hki:k=i
  ·subst hki
   rw[hv] at hu
   cases hu
   refine⟨fun _=>⟨?_,wn⟩,fun q=>absurd (Or.inr rfl) q⟩
   rw[List.getElem?_set_self (by omega),e2]
  ·rw[List.getElem?_set_ne (fun e=>hki e.symm),hin k hkM]
   obtain⟨a1,a2⟩:=h.fl k u hu
   refine⟨fun q=>?_,fun q=>a2 fun z=>q (Or.inl z)⟩
   obtain⟨b1,b2⟩:=a1 (q.resolve_right hki)
   exact⟨by rw[b1,lat.phi b2],lat.went b2⟩
end
section
open Go.RowKit Go.Maps
theorem MvAt.marked {B:Nat} {w:World} {m:Mb} {M:MS} {cs:Array Value} {T:TypeId} {vto vtf:Value} (h:MvAt B w m M cs T vto vtf) {g cap:Nat} (hv:vto=.slice (some ⟨g,0,none⟩) M.T.length cap) {j:Nat} (hj:j<M.T.length) (c:Bool) :
  MvAt B (w.setCell ⟨g,j*6+5,none⟩ (.bool c)) m { M with T:=aam c M.T j } cs T vto vtf:=by
 have hty:Typ w g 61:=zu h.tpart.objs (by rw[hv];rfl)
 have hT:=ab5 h.tT
 have oth:∀k,k≠g→(w.setCell ⟨g,j*6+5,none⟩ (.bool c)).heap[k]?=w.heap[k]?:=fun k hk=>zo _ hk
 have kt:∀{k t},Typ w k t→t≠61→(w.setCell ⟨g,j*6+5,none⟩ (.bool c)).heap[k]?=w.heap[k]?:=fun hk hne=>oth _ (hk.ne hty hne)
 have ymv:=kt h.ymv (by decide)
 have yfb:=kt h.yfb (by decide)
 have ylb:=kt h.ylb (by decide)
 have yl:∀b∈m.ls,_:=fun b (q:b∈m.ls)=>kt (h.yl b q) (by decide)
 have yp:∀b∈m.ls,(w.setCell ⟨g,j*6+5,none⟩ (.bool c)).heap[b.pb]?=w.heap[b.pb]?:=fun b q=>by
  obtain⟨t,t1,t2⟩:=h.yp b q
  exact kt t2 (ab5 t1).1
 have hl3:=acn c M.T j
 have hl4:=ack c M.T j
 refine⟨(World.cell?_of_block ymv).trans h.m0,(World.cell?_of_block ymv).trans h.m1,⟨(World.cell?_of_block yfb).trans h.fr.c,fun j b hj=>(World.cell?_of_block ylb).trans (h.fr.at' j b hj),h.fr.len,h.fr.few,fun j b p hj hp=>?_⟩,?_,h.sz,by simpa [World.setCell] using h.hB,h.tT,h.ymv.move ymv,h.yfb.move yfb,h.ylb.move ylb,fun b q=>(h.yl b q).move (yl b q),fun b q=>?_,h.hd,h.no,h.nf,h.nw,h.szn⟩
 ·have hbm:=List.mem_of_getElem? hj
  have hl:=h.fr.lvs j b p hj hp
  exact hl.other (yl b hbm) (kt (h.wb_ty hbm) (by decide)) (fun c _=>World.cell?_of_block (yp b hbm)) (fun k hk=>oth k (fun e=>h.no b hbm k (by rw[hv,e];rfl) hk)) (fun k hk=>kt (zu hl.pt.flds hk) (by decide))
 ·refine⟨(kt h.tb_ty hT.1).trans h.tpart.blk,h.tpart.e0,h.tpart.e1,h.tpart.e2,?_,?_,?_,?_,h.tpart.tO,h.tpart.tV⟩
  ·show World.ownsRow _ B _ 6 vto (aam c M.T j).length (aa7 0 (aam c M.T j))
   rw[hl3,agy c _ _ _ hj]
   exact acw h.tpart.objs hv _
  ·show World.ownsRow _ B _ 3 vtf (zg (aam c M.T j)).length (acg (aam c M.T j))
   unfold acg
   rw[hl4]
   exact zs h.tpart.flds fun k hk=>kt (zu h.tpart.flds hk) (by decide)
  ·show (zg (aam c M.T j)).length≤_
   rw[hl4]
   exact h.tpart.few
  ·show (aam c M.T j).length≤_
   rw[hl3]
   exact h.tpart.fewo
 ·obtain⟨t,t1,t2⟩:=h.yp b q
  exact⟨t,t1,t2.move (yp b q)⟩
theorem MvAt.mark_frame {B:Nat} {w:World} {m:Mb} {M:MS} {cs:Array Value} {T:TypeId} {vto vtf:Value} (h:MvAt B w m M cs T vto vtf) {g cap:Nat} (hv:vto=.slice (some ⟨g,0,none⟩) M.T.length cap) {i:Nat} (v:Value):FrM m vto vtf w (w.setCell ⟨g,i,none⟩ v):=by
 have hty:Typ w g 61:=zu h.tpart.objs (by rw[hv];rfl)
 have hne:m.tb≠g:=h.tb_ty.ne hty (ab5 h.tT).1
 exact⟨rfl,rfl,rfl,by simp[World.setCell],fun k _ _ _ h3 _=>zo _ (fun e=>h3 (by rw[hv,e];rfl)),fun c _=>World.cell?_of_block (zo _ hne)⟩
theorem Cap.marked {M:MS} (h:Cap M) (b:Bool) (j:Nat):Cap { M with T:=aam b M.T j }:=by
 have hl:=acn b M.T j
 have hal:=ack b M.T j
 refine⟨h.ft,?_,?_,?_,h.full,?_,h.nL⟩
 ·have:=h.cn
  unfold cnt at *
  show (aam b M.T j).length+_+1≤_
  rw[hl]
  exact this
 ·have:=h.top
  unfold cnt at *
  show M.ft+2*(((aam b M.T j).length+_:Nat):Int)+2≤_
  rw[hl]
  exact this
 ·have:=h.po
  unfold pot at *
  show (zg (aam b M.T j)).length+_≤_
  rw[hal]
  exact this
 ·show ∀v∈zg (aam b M.T j),_
  rw[hal]
  exact h.nT
end
end Go.Proofs.YtpnghfghdbijlaaGreatDoor
