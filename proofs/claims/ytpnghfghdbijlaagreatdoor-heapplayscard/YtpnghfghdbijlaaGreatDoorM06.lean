/- A part. -/
import Derived.Test.YtpnghfghdbijlaaGreatDoorM05
open Go.Proofs.Tryz
namespace Go.Proofs.YtpnghfghdbijlaaGreatDoor
open Go.RowKit
set_option linter.unusedVariables false
set_option linter.unusedSimpArgs false
set_option maxRecDepth 100000
set_option maxHeartbeats 40000000
theorem aas {w:World} {g i j:Nat} {u v:Value} (h:w.cell? ⟨g,j,none⟩=some u) (hne:i≠j):(w.setCell ⟨g,i,none⟩ v).cell? ⟨g,j,none⟩=some u:=by
 have:=World.cell?_setCell_other w (a:=⟨g,i,none⟩) (b:=⟨g,j,none⟩) (v:=v) (by intro e;cases e;exact hne rfl)
 exact this.trans h
theorem aap {w:World} {g i i' j:Nat} {u v v':Value} (h:w.cell? ⟨g,j,none⟩=some u) (hne:i≠j) (hne':i'≠j):((w.setCell ⟨g,i,none⟩ v).setCell ⟨g,i',none⟩ v').cell? ⟨g,j,none⟩=some u:=aas (aas h hne) hne'
theorem set3 {w:World} {r:Nat} {t:TypeId} {x y z:Value} (h:w.heap[r]?=some (.cells #[x,y,z] t (0,0))) (a b c:Value):(((w.setCell ⟨r,0,none⟩ a).setCell ⟨r,1,none⟩ b).setCell ⟨r,2,none⟩ c).heap[r]?=some (.cells #[a,b,c] t (0,0)):=by
 rw[aad (aad (aad h 0 a) 1 b) 2 c]
 rfl
def hvV (v:HV):Value:=.agg #[.int .i64 v.kind,.int .i64 v.n,.string v.s]
theorem als {B:Nat} {w:World} {fb lb cb:Nat} {ls:List Lv} {L:List PL} (h:FromAt B w fb lb cb ls L) {a:Int} (ha:I64 a) (hq:aab L 0 a=none) :
  Calls prog 62 #[.int .i64 a,.pointer (some ⟨fb,0,none⟩)] w fun e w'=>e=.returned (.tuple #[.pointer none,.int .i64 0])∧Below w.heap.size w w' :=
 (aiq h ha).mono fun e w' ⟨he,hb⟩=>⟨by rw[he,hq];rfl,hb⟩
theorem alt {B:Nat} {w:World} {fb lb cb:Nat} {ls:List Lv} {L:List PL} (h:FromAt B w fb lb cb ls L) {a:Int} (ha:I64 a) {j i:Nat} {b:Lv} (hq:aab L 0 a=some (j,i)) (hb:ls[j]?=some b) :
  Calls prog 62 #[.int .i64 a,.pointer (some ⟨fb,0,none⟩)] w fun e w'=>e=.returned (.tuple #[.pointer (some ⟨b.l,0,none⟩),.int .i64 i])∧Below w.heap.size w w' :=
 (aiq h ha).mono fun e w' ⟨he,hb'⟩=>⟨by rw[he,hq];simp only[leadV,hb],hb'⟩
theorem PtAt.row {B:Nat} {w:World} {b o:Nat} {l:List HO} {vo vf:Value} (h:PtAt B w b o l vo vf) {i:Nat} {x:HO} (hx:l[i]?=some x) {g cap:Nat} (e:vf=.slice (some ⟨g,0,none⟩) (zg l).length cap) :
  ∀j u,(x.fs.flatMap aaw)[j]?=some u→w.cell? ((⟨g,zm l i*3,none⟩:Addr).add j)=some u:=by
 intro j u hu
 have hj:=(List.getElem?_eq_some_iff.1 hu).1
 rw[adf] at hj
 have hk:j / 3<x.fs.length:=by omega
 obtain⟨v,hv⟩:∃v,x.fs[j / 3]?=some v:=⟨_,List.getElem?_eq_getElem hk⟩
 obtain⟨f0,f1,f2⟩:=h.fld hx hv e
 have hr:j % 3<3:=Nat.mod_lt _ (by decide)
 have hg:=ac6 hv hr
 have hjj:j / 3*3+j % 3=j:=by omega
 rw[hjj,hu] at hg
 rw[Addr.add_lit]
 have key:∀r,r<3→j % 3=r→w.cell? ⟨g,zm l i*3+j,none⟩=(aaw v)[r]?:=by
  intro r hr3 e3
  match r,hr3 with
  | 0,_=>rw[show zm l i*3+j=zm l i*3+j / 3*3 by omega];exact f0
  | 1,_=>rw[show zm l i*3+j=zm l i*3+j / 3*3+1 by omega];exact f1
  | 2,_=>rw[show zm l i*3+j=zm l i*3+j / 3*3+2 by omega];exact f2
 rw[key _ hr rfl]
 exact hg.symm
def ae0 (B:Nat) (m:Mb) (M:MS) (T:TypeId) (vto vtf:Value) (v:HV) (w:World) (e:Ending) (w':World):Prop :=
 e=.returned (hvV (aaj M v).2)∧FrM m vto vtf w w'∧∃cs' vto' vtf',MvAt B w' m (aaj M v).1 cs' T vto' vtf'∧(vto'.ownBlock=vto.ownBlock∨∀j,vto'.ownBlock=some j→w.heap.size≤j)∧(vtf'.ownBlock=vtf.ownBlock∨∀j,vtf'.ownBlock=some j→w.heap.size≤j)
theorem agt {B:Nat} {m:Mb} {M:MS} {cs:Array Value} {T:TypeId} {vto vtf:Value} {v u:HV} {w w':World} (h:MvAt B w m M cs T vto vtf) (he:aaj M v=(M,u)) (hb:Below w.heap.size w w'):ae0 B m M T vto vtf v w (.returned (hvV u)) w':=by
 unfold ae0
 rw[he]
 exact⟨rfl,FrM.of_below hb (hlt h.tpart.blk),cs,vto,vtf,h.keep hb,Or.inl rfl,Or.inl rfl⟩
theorem anx {B:Nat} {w:World} {m:Mb} {M:MS} {cs:Array Value} {T:TypeId} {vto vtf:Value} (h:MvAt B w m M cs T vto vtf) (v:HV) (hv:I64 v.n) (hbd:M.ft+2*M.T.length+2≤4611686018427387904) (hft:0≤M.ft) (hfo:M.T.length+1≤10000000) (hfw:∀q x,aak M.L q=some x→aaf M.L q=0→(zg M.T).length+x.fs.length≤10000000) :
  Calls prog 63 #[.pointer (some ⟨m.mv,0,none⟩),hvV v] w fun e w'=>ae0 B m M T vto vtf v w e w':=by
 have H:=zc h
 have HV:=zc hv
 have HBD:=zc hbd
 have HFT:=zc hft
 have HFO:=zc hfo
 have HFW:=zc hfw
 clear h hv hbd hft hfo hfw
 obtain⟨kd,n,s⟩:=v
 show Calls _ _ #[_,.agg #[.int .i64 kd,.int .i64 n,.string s]] _ _
 obtain⟨w0,hw0⟩:∃w0,(w.alloc (.cells #[.int .i64 kd,.int .i64 n,.string s] 69)).alloc (.cells #[.int .i64 0,.int .i64 0,.string ⟨#[]⟩] 69)=w0:=⟨_,rfl⟩
 have hb0:Below w.heap.size w w0:=by rw[←hw0];exact((Below.refl _ _).alloc (Nat.le_refl _) _).alloc (by simp) _
 have hk0:w0.heap[w.heap.size]?=some (.cells #[.int .i64 kd,.int .i64 n,.string s] 69 (0,0)):=by
  rw[←hw0]
  exact(Below.heap_alloc _ _ _ (by simp)).trans (aan _ _)
 have hk1:w0.heap[w.heap.size+1]?=some (.cells #[.int .i64 0,.int .i64 0,.string ⟨#[]⟩] 69 (0,0)):=by
  rw[←hw0]
  exact afk _ _ (by simp)
 have a0:=zd hk0 0
 have a1:=zd hk0 1
 have a2:=zd hk0 2
 have HB0:=zc hb0
 have HK0:=zc hk0
 have HK1:=zc hk1
 clear hb0 hk0 hk1
 by_cases hk:kd=4
 ·subst hk
  go_enter func63,ntmps63
  go_wp2_with fail
  have m1:=(za H).m1
  have b1:=zj (za HB0) m1 (ze m1)
  clear m1
  cases hq:aab M.L 0 n with
  | none =>
   have HQ:=zc hq
   clear hq
   go_region_held3 (fun w'=>w'.cell? ⟨m.mv,1,none⟩=some (.func (.func 62) #[] #[.pointer (some ⟨m.fb,0,none⟩)])∧w'.cell? ⟨w.heap.size,1,none⟩=some (.int .i64 n)) (go_keep)
    ((go_at_call 62;refine(als ((za H).fr.keep ((za HB0).drew)) (za HV) (za HQ)).mono ?_;rintro e w1 ⟨rfl,hb1⟩;have k1:=zj hb1 b1 (ze b1);have k2:=zj hb1 a1 (ze a1);have k0:=zj hb1 a0 (ze a0);have k3:=zj hb1 a2 (ze a2);have HB1:=zc ((za HB0).drew.trans (hb1.mono (za HB0).size));have HK11:=zc ((hb1.block _ (hlt (za HK1))).trans (za HK1));have HK01:=zc ((hb1.block _ (hlt (za HK0))).trans (za HK0));clear hb1))
   all_goals
    have r0:=zd (za HK11) 0
    have r1:=fun u=>aas (v:=u) (i:=0) (zd (za HK11) 1) (by decide)
    have r2:=fun u u'=>aap (v:=u) (v':=u') (i:=0) (i':=1) (zd (za HK11) 2) (by decide) (by decide)
    have z0:=zt (za HK11) 0
    have z1:=zt (za HK11) 1
    have z2:=zt (za HK11) 2
    go_wp2_with fail
    have hk3:=set3 (za HK11) (.int .i64 4) (.int .i64 n) (.string s)
    have f0:=zd hk3 0
    have f1:=zd hk3 1
    have f2:=zd hk3 2
    refine bodyPost_ret (v:=.agg #[.int .i64 4,.int .i64 n,.string s]) (by simp[results,Tryz.results63,f0,f1,f2,go_sem]) rfl ?_
    exact agt (u:=⟨4,n,s⟩) (za H) (by unfold aaj;rw[if_neg (by simp)];simp only[za HQ]) ((((za HB1).setCell (by simp) _).setCell (by simp) _).setCell (by simp) _)
  | some q =>
   obtain⟨j,i⟩:=q
   obtain⟨p,x,hp,hx,hob,hn⟩:=ae8 hq
   have hp:M.L[j]?=some p:=hp
   have hx:p.objs[i]?=some x:=hx
   have hlj:j<m.ls.length:=by rw[(za H).fr.len];exact(List.getElem?_eq_some_iff.1 hp).1
   obtain⟨b,hb⟩:∃b,m.ls[j]?=some b:=⟨_,List.getElem?_eq_getElem hlj⟩
   have HQ:=zc hq
   have HP:=zc hp
   have HX:=zc hx
   have HBB:=zc hb
   have HN:=zc hn
   have HOB:=zc hob
   clear hq hp hx hb hn hob hlj
   go_region_held3 (fun w'=>w'.cell? ⟨m.mv,1,none⟩=some (.func (.func 62) #[] #[.pointer (some ⟨m.fb,0,none⟩)])∧w'.cell? ⟨w.heap.size,1,none⟩=some (.int .i64 n)) (go_keep)
    ((go_at_call 62;refine(alt ((za H).fr.keep ((za HB0).drew)) (za HV) (za HQ) (za HBB)).mono ?_;rintro e w1 ⟨rfl,hb1⟩;have k1:=zj hb1 b1 (ze b1);have k2:=zj hb1 a1 (ze a1);have k0:=zj hb1 a0 (ze a0);have k3:=zj hb1 a2 (ze a2);have HB1:=zc ((za HB0).drew.trans (hb1.mono (za HB0).size));have HK11:=zc ((hb1.block _ (hlt (za HK1))).trans (za HK1));have HK01:=zc ((hb1.block _ (hlt (za HK0))).trans (za HK0));clear hb1))
   all_goals
    have HLV:=zc (((za H).keep (za HB1)).fr.lvs j b p (za HBB) (za HP))
    have l1:=(za HLV).c1
    have hil:i<p.objs.length:=(List.getElem?_eq_some_iff.1 (za HX)).1
    have hwl:i<p.went.length:=by rw[(za HLV).full];exact hil
    obtain⟨g0,hg0⟩:∃g0,p.went[i]?=some g0:=⟨_,List.getElem?_eq_getElem hwl⟩
    have l2:w1.cell? ⟨b.wb,i,none⟩=some (.int .i64 g0):=by
     rw[zd (za HLV).wn]
     simp[hg0,iv]
    have HG:Hid (aaf M.L (j,i)=g0):=by
     show aaf M.L (j,i)=g0
     simp[aaf,za HP,hg0]
    have hil2:(i:Int)<(p.objs.length:Int):=by omega
    clear hg0 hwl hil
    by_cases hg:g0=0
    ·subst hg
     have HM1:=zc ((za H).keep (za HB1))
     obtain⟨gO,cO,hvo,o0,o1,o2,o3,o4,o5⟩:=(za HLV).pt.obj (za HX)
     have HVO:=zc hvo
     have l0:=(za HLV).c0
     have mm:=(za HM1).m0
     have oc:=(za HLV).pt.c1
     rw[hvo] at oc
     have hbm:b∈m.ls:=List.mem_of_getElem? (za HBB)
     have wT:=(za HM1).wb_ty hbm
     have n1:b.wb≠b.l:=wT.ne ((za HM1).yl b hbm) (by decide)
     have n2:b.wb≠m.mv:=wT.ne (za HM1).ymv (by decide)
     have n3:b.wb≠b.pb:=by
      obtain⟨t,t1,t2⟩:=(za HM1).yp b hbm
      exact wT.ne t2 (ab5 t1).2.2.1.symm
     have n4:b.wb≠gO:=wT.ne (zu (j:=gO) (za HLV).pt.objs (by rw[hvo];rfl)) (by decide)
     have n5:b.wb<w1.heap.size:=wT.lt
     have HWI:Hid (p.went[i]?=some 0):=by
      show p.went[i]?=some 0
      have hwl:i<p.went.length:=by rw[(za HLV).full];omega
      have hgg:=za HG
      simp only[aaf,za HP,Option.bind_some] at hgg
      rw[List.getElem?_eq_getElem hwl] at hgg ⊢
      simpa using hgg
     have hbg:((0:Int)==0)=true:=rfl
     clear hvo hbm wT
     go_wp2_with fail
     by_cases hxe:x.fs=[]
     ·have HXE:=zc hxe
      have hx0:x.fs.length=0:=by rw[hxe];rfl
      rw[hx0] at o4
      go_region_held3 (fun w'=>w'.cell? ⟨b.l,1,none⟩=some (.slice (some ⟨b.wb,0,none⟩) p.objs.length p.objs.length)∧w'.cell? ⟨m.mv,0,none⟩=some (.pointer (some ⟨m.tb,m.tp,none⟩))∧w'.cell? ⟨b.l,0,none⟩=some (.pointer (some ⟨b.pb,b.po,none⟩))∧w'.cell? ⟨b.pb,b.po+1,none⟩=some (.slice (some ⟨gO,0,none⟩) p.objs.length cO)∧w'.cell? ⟨gO,i*6,none⟩=some (.int .i64 x.kind)∧w'.cell? ⟨gO,i*6+1,none⟩=some (.int .i64 x.tag)∧w'.cell? ⟨gO,i*6+2,none⟩=some (.int .i64 x.id)∧w'.cell? ⟨gO,i*6+3,none⟩=some (.int .i64 (zm p.objs i))∧w'.cell? ⟨gO,i*6+4,none⟩=some (.int .i64 0)∧w'.cell? ⟨gO,i*6+5,none⟩=some (.bool x.noted)) (go_keep)
       (first
        | (go_at_call 44;refine(ad4 ((za HLV).pt.keep (Below.drew (Below.refl _ _))) (za HX)).mono ?_;rintro e w2 ⟨hb2,g',cap',rfl,hcap,hfs⟩;rw[hx0];have tl1:=zj hb2 l1 (ze l1);have tmm:=zj hb2 mm (ze mm);have tl0:=zj hb2 l0 (ze l0);have toc:=zj hb2 oc (ze oc);have to0:=zj hb2 o0 (ze o0);have to1:=zj hb2 o1 (ze o1);have to2:=zj hb2 o2 (ze o2);have to3:=zj hb2 o3 (ze o3);have to4:=zj hb2 o4 (ze o4);have to5:=zj hb2 o5 (ze o5);have HM2:=zc (((za HM1).keep (Below.drew (Below.refl _ _))).keep hb2);have HLV2:=zc (((za HLV).keep (Below.drew (Below.refl _ _))).keep hb2);have HB2:=zc hb2;clear hb2 hcap hfs)
        | (go_at_call 16;refine(akr (za HM2).tpart (za HM2).hB { x with noted:=false } (za HXE) rfl (zm p.objs i) x.noted (za HFT) (za HBD) (za HFO) (za HM2).sz).mono ?_;rintro e w3 ⟨rfl,vo',vf',hP,hF,e1,e2⟩;have hfr:=aju (za HM2) hP hF (List.mem_of_getElem? (za HBB)) (za HLV2);have ul1:=(World.cell?_of_block hfr.2.1).trans tl1;have umm:=(World.cell?_of_block hfr.1).trans tmm;have ul0:=(World.cell?_of_block hfr.2.1).trans tl0;have uoc:=(hfr.2.2.2.1 1 (by omega)).trans toc;have uo0:=(World.cell?_of_block (hfr.2.2.2.2 gO (by rw[za HVO];rfl))).trans to0;have uo1:=(World.cell?_of_block (hfr.2.2.2.2 gO (by rw[za HVO];rfl))).trans to1;have uo2:=(World.cell?_of_block (hfr.2.2.2.2 gO (by rw[za HVO];rfl))).trans to2;have uo3:=(World.cell?_of_block (hfr.2.2.2.2 gO (by rw[za HVO];rfl))).trans to3;have uo4:=(World.cell?_of_block (hfr.2.2.2.2 gO (by rw[za HVO];rfl))).trans to4;have uo5:=(World.cell?_of_block (hfr.2.2.2.2 gO (by rw[za HVO];rfl))).trans to5;have HW3:=zc (hfr.2.2.1.trans (za HLV2).wn);have s0:=zd (za HW3) i;rw[show ((p.went.map iv).toArray)[i]?=some (.int .i64 0) by simp[za HWI,iv]] at s0;have s1:=zt (za HW3) i;have HP3:=zc hP;have HF3:=zc hF;have HE1:=zc e1;have HE2:=zc e2;clear hP hF e1 e2 hfr))
      all_goals
       have HMV:=zc (aks (q:=(j,i)) (za HM2) (za HBB) (za HP) (za HP3) (za HF3) (za HE1) (za HE2) (M.ft+2*(M.T.length:Int)))
       obtain⟨w4,hw4⟩:∃w4,w3.setCell ⟨b.wb,i,none⟩ (.int .i64 (M.ft+2*(M.T.length:Int)))=w4:=⟨_,rfl⟩
       have HW4:=zc hw4
       rw[hw4]
       have HMW:Hid (MvAt B w4 m { M with T:=M.T++[{ x with noted:=false }],L:=aar M.L (j,i) (M.ft+2*(M.T.length:Int)) } ((cs.setIfInBounds (m.tp+1) vo').setIfInBounds (m.tp+2) vf') T vo' vf'∧FrM m vto vtf w2 w4):=by
        rw[←hw4]
        exact za HMV
       have HLV4:=zc ((za HMW).1.fr.lvs j b _ (za HBB) (ags (za HP)))
       have v1:=(za HLV4).c1
       have v2:w4.cell? ⟨b.wb,i,none⟩=some (.int .i64 (M.ft+2*(M.T.length:Int))):=by
        rw[←hw4]
        exact World.cell?_setCell_same _ _ _ s0
       have v1':w4.cell? ⟨b.l,1,none⟩=some (.slice (some ⟨b.wb,0,none⟩) p.objs.length p.objs.length):=by simpa using v1
       have q1:w.heap.size<w1.heap.size:=hlt (za HK01)
       have q2:w.heap.size+1<w1.heap.size:=hlt (za HK11)
       have q3:m.tb<w.heap.size:=hlt (za H).tpart.blk
       have q4:w1.heap.size≤w2.heap.size:=(za HB2).size
       have q5:b.wb<w.heap.size:=((za H).wb_ty (List.mem_of_getElem? (za HBB))).lt
       have q6:∀k,w.heap.size≤k→vto.ownBlock≠some k:=fun k hk e=>by have:=(zu (za H).tpart.objs e).lt;omega
       have q7:∀k,w.heap.size≤k→vtf.ownBlock≠some k:=fun k hk e=>by have:=(zu (za H).tpart.flds e).lt;omega
       have up:∀k,w.heap.size≤k→k<w1.heap.size→w4.heap[k]?=w1.heap[k]?:=fun k hk hl=>by
        rw[←hw4,zo _ (by omega),(za HF3).block k (by omega) (by omega) (q6 k hk) (q7 k hk)]
        exact(za HB2).block k hl
       have HK04:=zc ((up _ (Nat.le_refl _) q1).trans (za HK01))
       have HK14:=zc ((up _ (by omega) q2).trans (za HK11))
       have HQ3:=zc q3
       have g1:=zd (za HK04) 1
       have HQ4:=zc (Nat.lt_of_lt_of_le q2 q4)
       clear HMV hw4 v1 q1 q2 q3 q4 q5 q6 q7 up s0 s1 n1 n2 n3 n4 n5
       obtain⟨w5,hw5⟩:∃w5,w4.setCell ⟨w.heap.size,1,none⟩ (.int .i64 (M.ft+2*(M.T.length:Int)))=w5:=⟨_,rfl⟩
       have hk02:w5.heap[w.heap.size]?=some (.cells #[.int .i64 4,.int .i64 (M.ft+2*(M.T.length:Int)),.string s] 69 (0,0)):=by rw[←hw5,aad (za HK04) 1];rfl
       have hk12:w5.heap[w.heap.size+1]?=some (.cells #[.int .i64 0,.int .i64 0,.string ⟨#[]⟩] 69 (0,0)):=by rw[←hw5];exact(zo _ (by omega)).trans (za HK14)
       have y1:=zt (za HK04) 1
       have e0:=zd hk02 0
       have e1:=zd hk02 1
       have e2:=zd hk02 2
       have r0:=zd hk12 0
       have r1:=fun u=>aas (v:=u) (i:=0) (zd hk12 1) (by decide)
       have r2:=fun u u'=>aap (v:=u) (v':=u') (i:=0) (i':=1) (zd hk12 2) (by decide) (by decide)
       have z0:=zt hk12 0
       have z1:=zt hk12 1
       have z2:=zt hk12 2
       have HK12:=zc hk12
       clear hk02 hk12
       go_wp2_with fail
       have hk3:=set3 (za HK12) (.int .i64 4) (.int .i64 (M.ft+2*(M.T.length:Int))) (.string s)
       have f0:=zd hk3 0
       have f1:=zd hk3 1
       have f2:=zd hk3 2
       refine bodyPost_ret (v:=.agg #[.int .i64 4,.int .i64 (M.ft+2*(M.T.length:Int)),.string s]) (by simp[results,Tryz.results63,f0,f1,f2,go_sem]) rfl ?_
       have hmv:aaj M ⟨4,n,s⟩=({ M with T:=M.T++[{ x with noted:=false }],L:=aar M.L (j,i) (M.ft+2*(M.T.length:Int)) },⟨4,M.ft+2*(M.T.length:Int),s⟩):=by
        unfold aaj
        rw[if_neg (by simp)]
        simp only[za HQ,za HG,za HOB]
        rfl
       have hz5:w5.heap.size=w4.heap.size:=by rw[←hw5];simp[World.setCell]
       have hb5:∀k,k≠w.heap.size→k≠w.heap.size+1→((((w5.setCell ⟨w.heap.size+1,0,none⟩ (.int .i64 4)).setCell ⟨w.heap.size+1,1,none⟩ (.int .i64 (M.ft+2*(M.T.length:Int)))).setCell ⟨w.heap.size+1,2,none⟩ (.string s))).heap[k]?=w4.heap[k]?:=fun k h1 h2=>by
        rw[zo _ h2,zo _ h2,zo _ h2,←hw5,zo _ h1]
       have hz:w.heap.size+1<w4.heap.size:=Nat.lt_of_lt_of_le (za HQ4) (za HMW).2.size
       have lo1:vo'.ownBlock=vto.ownBlock∨∀j,vo'.ownBlock=some j→w.heap.size+2≤j:=by
        rcases za HE1 with e | e
        ·exact Or.inl e
        ·exact Or.inr fun j hj=>by have:=e j hj;have:=za HQ4;omega
       have lo2:vf'.ownBlock=vtf.ownBlock∨∀j,vf'.ownBlock=some j→w.heap.size+2≤j:=by
        rcases za HE2 with e | e
        ·exact Or.inl e
        ·exact Or.inr fun j hj=>by have:=e j hj;have:=za HQ4;omega
       unfold ae0
       rw[hmv]
       refine⟨rfl,?_,_,vo',vf',(za HMW).1.except (fun k=>k=w.heap.size∨k=w.heap.size+1) (by simp[World.setCell,hz5]) (fun k _ hn=>hb5 k (fun e=>hn (Or.inl e)) (fun e=>hn (Or.inr e))) (fun k hk=>?_) (fun j' hj' hk=>?_) (fun b' hb' j' hj' hk=>?_),?_,?_⟩
       ·have f1:FrM m vto vtf w w2:=FrM.of_below ((za HB1).trans ((Below.drew (Below.refl _ _)).trans (za HB2) |>.mono (za HB1).size)) (za HQ3)
        have f2:=f1.trans (za HMW).2 (Or.inl rfl) (Or.inl rfl)
        exact f2.later (by simp[World.setCell,hz5]) (by rw[←hw5];rfl) (by rw[←hw5];rfl) (by rw[←hw5];rfl) (za HQ3) (fun k hk=>hb5 k (by omega) (by omega))
       ·rcases hk with rfl | rfl
        ·exact⟨_,_,za HK04⟩
        ·exact⟨_,_,za HK14⟩
       ·rcases lo2 with e | e
        ·have:=(zu (za H).tpart.flds (e ▸ hj')).lt
         omega
        ·have:=e j' hj'
         omega
       ·obtain⟨a9,ha9⟩:=List.getElem?_of_mem hb'
        have hl9:a9<M.L.length:=by rw[←(za H).fr.len];exact(List.getElem?_eq_some_iff.1 ha9).1
        have:=(zu ((za H).fr.lvs a9 b' _ ha9 (List.getElem?_eq_getElem hl9)).pt.flds hj').lt
        omega
       ·rcases lo1 with e | e
        ·exact Or.inl e
        ·exact Or.inr fun j hj=>by have:=e j hj;omega
       ·rcases lo2 with e | e
        ·exact Or.inl e
        ·exact Or.inr fun j hj=>by have:=e j hj;omega
     ·have hxp:0<x.fs.length:=by
       cases hf:x.fs with
       | nil=>exact absurd hf hxe
       | cons _ _=>simp
      have HXP:=zc hxp
      clear hxe
      go_region_held3 (fun w'=>w'.cell? ⟨b.l,1,none⟩=some (.slice (some ⟨b.wb,0,none⟩) p.objs.length p.objs.length)∧w'.cell? ⟨m.mv,0,none⟩=some (.pointer (some ⟨m.tb,m.tp,none⟩))∧w'.cell? ⟨b.l,0,none⟩=some (.pointer (some ⟨b.pb,b.po,none⟩))∧w'.cell? ⟨b.pb,b.po+1,none⟩=some (.slice (some ⟨gO,0,none⟩) p.objs.length cO)∧w'.cell? ⟨gO,i*6,none⟩=some (.int .i64 x.kind)∧w'.cell? ⟨gO,i*6+1,none⟩=some (.int .i64 x.tag)∧w'.cell? ⟨gO,i*6+2,none⟩=some (.int .i64 x.id)∧w'.cell? ⟨gO,i*6+3,none⟩=some (.int .i64 (zm p.objs i))∧w'.cell? ⟨gO,i*6+4,none⟩=some (.int .i64 x.fs.length)∧w'.cell? ⟨gO,i*6+5,none⟩=some (.bool x.noted)) (go_keep)
       (first
        | (go_at_call 44;refine(ad4 ((za HLV).pt.keep (Below.drew (Below.refl _ _))) (za HX)).mono ?_;rintro e w2 ⟨hb2,g',cap',rfl,hcap,hfs⟩;obtain⟨gf,cf,hvf,rfl,rfl⟩:=hfs (za HXP);have HVF:=zc hvf;clear hvf;have tl1:=zj hb2 l1 (ze l1);have tmm:=zj hb2 mm (ze mm);have tl0:=zj hb2 l0 (ze l0);have toc:=zj hb2 oc (ze oc);have to0:=zj hb2 o0 (ze o0);have to1:=zj hb2 o1 (ze o1);have to2:=zj hb2 o2 (ze o2);have to3:=zj hb2 o3 (ze o3);have to4:=zj hb2 o4 (ze o4);have to5:=zj hb2 o5 (ze o5);have HM2:=zc (((za HM1).keep (Below.drew (Below.refl _ _))).keep hb2);have HLV2:=zc (((za HLV).keep (Below.drew (Below.refl _ _))).keep hb2);have HB2:=zc hb2;clear hb2 hcap hfs)
        | (go_at_call 16;refine(al5 (za HM2).tpart (za HM2).hB { x with noted:=false } (za HXP) rfl (zm p.objs i) x.noted (PtAt.row (za HLV2).pt (za HX) (za HVF)) (by obtain⟨c9,f9,g9⟩:=zu (j:=gf) (za HLV2).pt.flds (by rw[za HVF];rfl);exact⟨c9,f9,g9⟩) (za HFT) (za HBD) (za HFW (j,i) x (za HOB) (za HG)) (za HFO) (za HM2).sz).mono ?_;rintro e w3 ⟨rfl,vo',vf',hP,hF,e1,e2⟩;have hfr:=aju (za HM2) hP hF (List.mem_of_getElem? (za HBB)) (za HLV2);have ul1:=(World.cell?_of_block hfr.2.1).trans tl1;have umm:=(World.cell?_of_block hfr.1).trans tmm;have ul0:=(World.cell?_of_block hfr.2.1).trans tl0;have uoc:=(hfr.2.2.2.1 1 (by omega)).trans toc;have uo0:=(World.cell?_of_block (hfr.2.2.2.2 gO (by rw[za HVO];rfl))).trans to0;have uo1:=(World.cell?_of_block (hfr.2.2.2.2 gO (by rw[za HVO];rfl))).trans to1;have uo2:=(World.cell?_of_block (hfr.2.2.2.2 gO (by rw[za HVO];rfl))).trans to2;have uo3:=(World.cell?_of_block (hfr.2.2.2.2 gO (by rw[za HVO];rfl))).trans to3;have uo4:=(World.cell?_of_block (hfr.2.2.2.2 gO (by rw[za HVO];rfl))).trans to4;have uo5:=(World.cell?_of_block (hfr.2.2.2.2 gO (by rw[za HVO];rfl))).trans to5;have HW3:=zc (hfr.2.2.1.trans (za HLV2).wn);have s0:=zd (za HW3) i;rw[show ((p.went.map iv).toArray)[i]?=some (.int .i64 0) by simp[za HWI,iv]] at s0;have s1:=zt (za HW3) i;have HP3:=zc hP;have HF3:=zc hF;have HE1:=zc e1;have HE2:=zc e2;clear hP hF e1 e2 hfr))
      all_goals
       have HMV:=zc (aks (q:=(j,i)) (za HM2) (za HBB) (za HP) (za HP3) (za HF3) (za HE1) (za HE2) (M.ft+2*(M.T.length:Int)))
       obtain⟨w4,hw4⟩:∃w4,w3.setCell ⟨b.wb,i,none⟩ (.int .i64 (M.ft+2*(M.T.length:Int)))=w4:=⟨_,rfl⟩
       have HW4:=zc hw4
       rw[hw4]
       have HMW:Hid (MvAt B w4 m { M with T:=M.T++[{ x with noted:=false }],L:=aar M.L (j,i) (M.ft+2*(M.T.length:Int)) } ((cs.setIfInBounds (m.tp+1) vo').setIfInBounds (m.tp+2) vf') T vo' vf'∧FrM m vto vtf w2 w4):=by
        rw[←hw4]
        exact za HMV
       have HLV4:=zc ((za HMW).1.fr.lvs j b _ (za HBB) (ags (za HP)))
       have v1:=(za HLV4).c1
       have v2:w4.cell? ⟨b.wb,i,none⟩=some (.int .i64 (M.ft+2*(M.T.length:Int))):=by
        rw[←hw4]
        exact World.cell?_setCell_same _ _ _ s0
       have v1':w4.cell? ⟨b.l,1,none⟩=some (.slice (some ⟨b.wb,0,none⟩) p.objs.length p.objs.length):=by simpa using v1
       have q1:w.heap.size<w1.heap.size:=hlt (za HK01)
       have q2:w.heap.size+1<w1.heap.size:=hlt (za HK11)
       have q3:m.tb<w.heap.size:=hlt (za H).tpart.blk
       have q4:w1.heap.size≤w2.heap.size:=(za HB2).size
       have q5:b.wb<w.heap.size:=((za H).wb_ty (List.mem_of_getElem? (za HBB))).lt
       have q6:∀k,w.heap.size≤k→vto.ownBlock≠some k:=fun k hk e=>by have:=(zu (za H).tpart.objs e).lt;omega
       have q7:∀k,w.heap.size≤k→vtf.ownBlock≠some k:=fun k hk e=>by have:=(zu (za H).tpart.flds e).lt;omega
       have up:∀k,w.heap.size≤k→k<w1.heap.size→w4.heap[k]?=w1.heap[k]?:=fun k hk hl=>by
        rw[←hw4,zo _ (by omega),(za HF3).block k (by omega) (by omega) (q6 k hk) (q7 k hk)]
        exact(za HB2).block k hl
       have HK04:=zc ((up _ (Nat.le_refl _) q1).trans (za HK01))
       have HK14:=zc ((up _ (by omega) q2).trans (za HK11))
       have HQ3:=zc q3
       have g1:=zd (za HK04) 1
       have HQ4:=zc (Nat.lt_of_lt_of_le q2 q4)
       clear HMV hw4 v1 q1 q2 q3 q4 q5 q6 q7 up s0 s1 n1 n2 n3 n4 n5
       obtain⟨w5,hw5⟩:∃w5,w4.setCell ⟨w.heap.size,1,none⟩ (.int .i64 (M.ft+2*(M.T.length:Int)))=w5:=⟨_,rfl⟩
       have hk02:w5.heap[w.heap.size]?=some (.cells #[.int .i64 4,.int .i64 (M.ft+2*(M.T.length:Int)),.string s] 69 (0,0)):=by rw[←hw5,aad (za HK04) 1];rfl
       have hk12:w5.heap[w.heap.size+1]?=some (.cells #[.int .i64 0,.int .i64 0,.string ⟨#[]⟩] 69 (0,0)):=by rw[←hw5];exact(zo _ (by omega)).trans (za HK14)
       have y1:=zt (za HK04) 1
       have e0:=zd hk02 0
       have e1:=zd hk02 1
       have e2:=zd hk02 2
       have r0:=zd hk12 0
       have r1:=fun u=>aas (v:=u) (i:=0) (zd hk12 1) (by decide)
       have r2:=fun u u'=>aap (v:=u) (v':=u') (i:=0) (i':=1) (zd hk12 2) (by decide) (by decide)
       have z0:=zt hk12 0
       have z1:=zt hk12 1
       have z2:=zt hk12 2
       have HK12:=zc hk12
       clear hk02 hk12
       go_wp2_with fail
       have hk3:=set3 (za HK12) (.int .i64 4) (.int .i64 (M.ft+2*(M.T.length:Int))) (.string s)
       have f0:=zd hk3 0
       have f1:=zd hk3 1
       have f2:=zd hk3 2
       refine bodyPost_ret (v:=.agg #[.int .i64 4,.int .i64 (M.ft+2*(M.T.length:Int)),.string s]) (by simp[results,Tryz.results63,f0,f1,f2,go_sem]) rfl ?_
       have hmv:aaj M ⟨4,n,s⟩=({ M with T:=M.T++[{ x with noted:=false }],L:=aar M.L (j,i) (M.ft+2*(M.T.length:Int)) },⟨4,M.ft+2*(M.T.length:Int),s⟩):=by
        unfold aaj
        rw[if_neg (by simp)]
        simp only[za HQ,za HG,za HOB]
        rfl
       have hz5:w5.heap.size=w4.heap.size:=by rw[←hw5];simp[World.setCell]
       have hb5:∀k,k≠w.heap.size→k≠w.heap.size+1→((((w5.setCell ⟨w.heap.size+1,0,none⟩ (.int .i64 4)).setCell ⟨w.heap.size+1,1,none⟩ (.int .i64 (M.ft+2*(M.T.length:Int)))).setCell ⟨w.heap.size+1,2,none⟩ (.string s))).heap[k]?=w4.heap[k]?:=fun k h1 h2=>by
        rw[zo _ h2,zo _ h2,zo _ h2,←hw5,zo _ h1]
       have hz:w.heap.size+1<w4.heap.size:=Nat.lt_of_lt_of_le (za HQ4) (za HMW).2.size
       have lo1:vo'.ownBlock=vto.ownBlock∨∀j,vo'.ownBlock=some j→w.heap.size+2≤j:=by
        rcases za HE1 with e | e
        ·exact Or.inl e
        ·exact Or.inr fun j hj=>by have:=e j hj;have:=za HQ4;omega
       have lo2:vf'.ownBlock=vtf.ownBlock∨∀j,vf'.ownBlock=some j→w.heap.size+2≤j:=by
        rcases za HE2 with e | e
        ·exact Or.inl e
        ·exact Or.inr fun j hj=>by have:=e j hj;have:=za HQ4;omega
       unfold ae0
       rw[hmv]
       refine⟨rfl,?_,_,vo',vf',(za HMW).1.except (fun k=>k=w.heap.size∨k=w.heap.size+1) (by simp[World.setCell,hz5]) (fun k _ hn=>hb5 k (fun e=>hn (Or.inl e)) (fun e=>hn (Or.inr e))) (fun k hk=>?_) (fun j' hj' hk=>?_) (fun b' hb' j' hj' hk=>?_),?_,?_⟩
       ·have f1:FrM m vto vtf w w2:=FrM.of_below ((za HB1).trans ((Below.drew (Below.refl _ _)).trans (za HB2) |>.mono (za HB1).size)) (za HQ3)
        have f2:=f1.trans (za HMW).2 (Or.inl rfl) (Or.inl rfl)
        exact f2.later (by simp[World.setCell,hz5]) (by rw[←hw5];rfl) (by rw[←hw5];rfl) (by rw[←hw5];rfl) (za HQ3) (fun k hk=>hb5 k (by omega) (by omega))
       ·rcases hk with rfl | rfl
        ·exact⟨_,_,za HK04⟩
        ·exact⟨_,_,za HK14⟩
       ·rcases lo2 with e | e
        ·have:=(zu (za H).tpart.flds (e ▸ hj')).lt
         omega
        ·have:=e j' hj'
         omega
       ·obtain⟨a9,ha9⟩:=List.getElem?_of_mem hb'
        have hl9:a9<M.L.length:=by rw[←(za H).fr.len];exact(List.getElem?_eq_some_iff.1 ha9).1
        have:=(zu ((za H).fr.lvs a9 b' _ ha9 (List.getElem?_eq_getElem hl9)).pt.flds hj').lt
        omega
       ·rcases lo1 with e | e
        ·exact Or.inl e
        ·exact Or.inr fun j hj=>by have:=e j hj;omega
       ·rcases lo2 with e | e
        ·exact Or.inl e
        ·exact Or.inr fun j hj=>by have:=e j hj;omega
    ·have hbg:(g0==0)=false:=by rw[beq_eq_false_iff_ne];exact hg
     have HG0:=zc hg
     clear hg
     obtain⟨w2,hw2⟩:∃w2,w1.setCell ⟨w.heap.size,1,none⟩ (.int .i64 g0)=w2:=⟨_,rfl⟩
     have hk02:w2.heap[w.heap.size]?=some (.cells #[.int .i64 4,.int .i64 g0,.string s] 69 (0,0)):=by rw[←hw2,aad (za HK01) 1];rfl
     have hk12:w2.heap[w.heap.size+1]?=some (.cells #[.int .i64 0,.int .i64 0,.string ⟨#[]⟩] 69 (0,0)):=by rw[←hw2];exact(zo _ (by omega)).trans (za HK11)
     have y1:=zt (za HK01) 1
     have e0:=zd hk02 0
     have e1:=zd hk02 1
     have e2:=zd hk02 2
     have r0:=zd hk12 0
     have r1:=fun u=>aas (v:=u) (i:=0) (zd hk12 1) (by decide)
     have r2:=fun u u'=>aap (v:=u) (v':=u') (i:=0) (i':=1) (zd hk12 2) (by decide) (by decide)
     have z0:=zt hk12 0
     have z1:=zt hk12 1
     have z2:=zt hk12 2
     have HK12:=zc hk12
     clear hk02 hk12
     go_wp2_with fail
     have hk3:=set3 (za HK12) (.int .i64 4) (.int .i64 g0) (.string s)
     have f0:=zd hk3 0
     have f1:=zd hk3 1
     have f2:=zd hk3 2
     refine bodyPost_ret (v:=.agg #[.int .i64 4,.int .i64 g0,.string s]) (by simp[results,Tryz.results63,f0,f1,f2,go_sem]) rfl ?_
     refine agt (u:=⟨4,g0,s⟩) (za H) ?_ ?_
     ·unfold aaj
      rw[if_neg (by simp)]
      simp only[za HQ,za HG]
      rw[if_pos (za HG0)]
     ·rw[←hw2]
      exact(((((za HB1).setCell (Nat.le_refl _) _).setCell (by simp) _).setCell (by simp) _).setCell (by simp) _)
 ·have hb0:(kd !=4)=true:=by rw[bne_iff_ne];exact hk
  have HK:=zc hk
  have r0:=zd (za HK1) 0
  have r1:=fun u=>aas (v:=u) (i:=0) (zd (za HK1) 1) (by decide)
  have r2:=fun u u'=>aap (v:=u) (v':=u') (i:=0) (i':=1) (zd (za HK1) 2) (by decide) (by decide)
  have z0:=zt (za HK1) 0
  have z1:=zt (za HK1) 1
  have z2:=zt (za HK1) 2
  clear hk
  go_enter func63,ntmps63
  go_wp2_with fail
  have hk3:=set3 (za HK1) (.int .i64 kd) (.int .i64 n) (.string s)
  have f0:=zd hk3 0
  have f1:=zd hk3 1
  have f2:=zd hk3 2
  refine bodyPost_ret (v:=.agg #[.int .i64 kd,.int .i64 n,.string s]) (by simp[results,Tryz.results63,f0,f1,f2,go_sem]) rfl ?_
  exact agt (u:=⟨kd,n,s⟩) (za H) (by unfold aaj;rw[if_pos (za HK)]) ((((za HB0).setCell (by simp) _).setCell (by simp) _).setCell (by simp) _)
theorem anz (cur:Array Value) (N k:Nat) (a b c:Value) (hk:k+2<N) (hN:N≤cur.size) :
  (((cur.setIfInBounds k a).setIfInBounds (k+1) b).setIfInBounds (k+2) c).toList.take N=(((cur.toList.take N).set k a).set (k+1) b).set (k+2) c:=by
 apply List.ext_getElem?
 intro j
 by_cases hj:j<N
 ·simp only[List.getElem?_take,if_pos hj,List.getElem?_set,Array.getElem?_toList,Array.getElem?_setIfInBounds,Array.size_setIfInBounds,List.length_set,List.length_take,Array.length_toList]
  split <;> split <;> (try split) <;> (try split) <;> first | rfl | omega | (simp;omega) | simp_all
 ·rw[List.getElem?_eq_none (by simp;omega),List.getElem?_eq_none (by simp;omega)]
theorem ahb {w:World} {B:Nat} {e:TypeId} {v:Value} {n:Nat} {xs:List Value} (h:w.ownsRow B e 3 v n xs) {g cap:Nat} (hv:v=.slice (some ⟨g,0,none⟩) n cap) {i:Nat} (hi:i<n) (a b c:Value) :
  (((w.setCell ⟨g,i*3,none⟩ a).setCell ⟨g,i*3+1,none⟩ b).setCell ⟨g,i*3+2,none⟩ c).ownsRow B e 3 v n (((xs.set (i*3) a).set (i*3+1) b).set (i*3+2) c):=by
 refine⟨by simpa using h.1,?_⟩
 rcases h.2 with ⟨rfl,rfl⟩ | ⟨g',cap',cur,rfl,h2,h3,h4,h5,h6,h7⟩
 ·cases hv
 ·cases hv
  refine Or.inr ⟨g,cap,_,rfl,h2,aad (aad (aad h3 _ a) _ b) _ c,h4,h5,by simpa using h6,?_⟩
  rw[anz cur (n*3) (i*3) a b c (by omega) (by rw[h6];exact Nat.mul_le_mul_right 3 h4),h7]
theorem akt:∀(l:List HV) (i:Nat) (v:HV),i<l.length→(l.set i v).flatMap aaw=(((l.flatMap aaw).set (i*3) (.int .i64 v.kind)).set (i*3+1) (.int .i64 v.n)).set (i*3+2) (.string v.s)
 | x :: r,0,v,_=>by simp[aaw]
 | x :: r,i+1,v,h=>by
  have:=akt r i v (by simpa using h)
  rw[List.set_cons_succ,List.flatMap_cons,this,List.flatMap_cons]
  have hl:(aaw x).length=3:=rfl
  rw[List.set_append_right _ _ (by omega),List.set_append_right _ _ (by omega),List.set_append_right _ _ (by omega),hl]
  congr 1
  congr 1
  ·congr 1
   ·congr 1
    omega
   ·omega
  ·omega
theorem aif (l:List HO) {i:Nat} (v:HV) (hi:i<(zg l).length):acg (aah l i v)=(((acg l).set (i*3) (.int .i64 v.kind)).set (i*3+1) (.int .i64 v.n)).set (i*3+2) (.string v.s):=by
 unfold acg
 rw[abw,akt _ _ _ hi]
theorem MvAt.fieldSet {B:Nat} {w:World} {m:Mb} {M:MS} {cs:Array Value} {T:TypeId} {vto vtf:Value} (h:MvAt B w m M cs T vto vtf) {g cap:Nat} (hv:vtf=.slice (some ⟨g,0,none⟩) (zg M.T).length cap) {i:Nat} (hi:i<(zg M.T).length) (v:HV) :
  MvAt B (((w.setCell ⟨g,i*3,none⟩ (.int .i64 v.kind)).setCell ⟨g,i*3+1,none⟩ (.int .i64 v.n)).setCell ⟨g,i*3+2,none⟩ (.string v.s)) m { M with T:=aah M.T i v } cs T vto vtf:=by
 have hty:Typ w g 69:=zu h.tpart.flds (by rw[hv];rfl)
 have hT:=ab5 h.tT
 have oth:∀k,k≠g→(((w.setCell ⟨g,i*3,none⟩ (.int .i64 v.kind)).setCell ⟨g,i*3+1,none⟩ (.int .i64 v.n)).setCell ⟨g,i*3+2,none⟩ (.string v.s)).heap[k]?=w.heap[k]?:=fun k hk=>by
  rw[zo _ hk,zo _ hk,zo _ hk]
 have kt:∀{k t},Typ w k t→t≠69→(((w.setCell ⟨g,i*3,none⟩ (.int .i64 v.kind)).setCell ⟨g,i*3+1,none⟩ (.int .i64 v.n)).setCell ⟨g,i*3+2,none⟩ (.string v.s)).heap[k]?=w.heap[k]?:=fun hk hne=>oth _ (hk.ne hty hne)
 have ymv:=kt h.ymv (by decide)
 have yfb:=kt h.yfb (by decide)
 have ylb:=kt h.ylb (by decide)
 have yl:∀b∈m.ls,_:=fun b (q:b∈m.ls)=>kt (h.yl b q) (by decide)
 have yp:∀b∈m.ls,(((w.setCell ⟨g,i*3,none⟩ (.int .i64 v.kind)).setCell ⟨g,i*3+1,none⟩ (.int .i64 v.n)).setCell ⟨g,i*3+2,none⟩ (.string v.s)).heap[b.pb]?=w.heap[b.pb]?:=fun b q=>by
  obtain⟨t,t1,t2⟩:=h.yp b q
  exact kt t2 (ab5 t1).2.1
 have hl3:(aah M.T i v).length=M.T.length:=abr _ _ _
 have hl4:(zg (aah M.T i v)).length=(zg M.T).length:=by rw[abw,List.length_set]
 refine⟨(World.cell?_of_block ymv).trans h.m0,(World.cell?_of_block ymv).trans h.m1,⟨(World.cell?_of_block yfb).trans h.fr.c,fun j b hj=>(World.cell?_of_block ylb).trans (h.fr.at' j b hj),h.fr.len,h.fr.few,fun j b p hj hp=>?_⟩,?_,h.sz,by simpa [World.setCell] using h.hB,h.tT,h.ymv.move ymv,h.yfb.move yfb,h.ylb.move ylb,fun b q=>(h.yl b q).move (yl b q),fun b q=>?_,h.hd,h.no,h.nf,h.nw,h.szn⟩
 ·have hbm:=List.mem_of_getElem? hj
  have hl:=h.fr.lvs j b p hj hp
  exact hl.other (yl b hbm) (kt (h.wb_ty hbm) (by decide)) (fun c _=>World.cell?_of_block (yp b hbm)) (fun k hk=>kt (zu hl.pt.objs hk) (by decide)) (fun k hk=>oth k (fun e=>h.nf b hbm k (by rw[hv,e];rfl) hk))
 ·refine⟨(kt h.tb_ty hT.2.1).trans h.tpart.blk,h.tpart.e0,h.tpart.e1,h.tpart.e2,?_,?_,?_,?_,h.tpart.tO,h.tpart.tV⟩
  ·have:=zs h.tpart.objs (fun k hk=>kt (zu h.tpart.objs hk) (by decide))
   show World.ownsRow _ B _ 6 vto (aah M.T i v).length (aa7 0 (aah M.T i v))
   rw[hl3,afs]
   exact this
  ·show World.ownsRow _ B _ 3 vtf (zg (aah M.T i v)).length (acg (aah M.T i v))
   rw[hl4,aif _ _ hi]
   exact ahb h.tpart.flds hv hi _ _ _
  ·show (zg (aah M.T i v)).length≤_
   rw[hl4]
   exact h.tpart.few
  ·show (aah M.T i v).length≤_
   rw[hl3]
   exact h.tpart.fewo
 ·obtain⟨t,t1,t2⟩:=h.yp b q
  exact⟨t,t1,t2.move (yp b q)⟩
def MvPost (B:Nat) (m:Mb) (M':MS) (T:TypeId) (vto vtf:Value) (w w':World):Prop :=
 FrM m vto vtf w w'∧∃cs' vto' vtf',MvAt B w' m M' cs' T vto' vtf'∧(vto'.ownBlock=vto.ownBlock∨∀j,vto'.ownBlock=some j→w.heap.size≤j)∧(vtf'.ownBlock=vtf.ownBlock∨∀j,vtf'.ownBlock=some j→w.heap.size≤j)
theorem aa4 {a b c:Option Nat} {n n':Nat} (h:b=a∨∀j,b=some j→n≤j) (k:c=b∨∀j,c=some j→n'≤j) (hn:n≤n'):c=a∨∀j,c=some j→n≤j:=by
 rcases k with rfl | k
 ·exact h
 ·exact Or.inr fun j hj=>Nat.le_trans hn (k j hj)
theorem MvPost.trans {B:Nat} {m:Mb} {M'':MS} {T:TypeId} {vto vtf vto' vtf':Value} {w w' w'':World} (h:FrM m vto vtf w w') (h1:vto'.ownBlock=vto.ownBlock∨∀j,vto'.ownBlock=some j→w.heap.size≤j) (h2:vtf'.ownBlock=vtf.ownBlock∨∀j,vtf'.ownBlock=some j→w.heap.size≤j) (k:MvPost B m M'' T vto' vtf' w' w''):MvPost B m M'' T vto vtf w w'':=by
 obtain⟨k1,cs,a,b,k2,k3,k4⟩:=k
 exact⟨h.trans k1 h1 h2,cs,a,b,k2,aa4 h1 k3 h.size,aa4 h2 k4 h.size⟩
theorem ahc {B:Nat} {w:World} {m:Mb} {M:MS} {cs:Array Value} {T:TypeId} {vto vtf:Value} (h:MvAt B w m M cs T vto vtf) (hc:Cap M) (v:HV) (hv:I64 v.n) :
  Calls prog 63 #[.pointer (some ⟨m.mv,0,none⟩),.agg #[.int .i64 v.kind,.int .i64 v.n,.string v.s]] w fun e w'=>e=.returned (.agg #[.int .i64 (aaj M v).2.kind,.int .i64 (aaj M v).2.n,.string (aaj M v).2.s])∧MvPost B m (aaj M v).1 T vto vtf w w':=by
 have hcr:=adl M
 have h1:=hc.cn
 have h2:=hc.top
 have h3:=hc.ft
 have h4:=hc.po
 exact(anx h v hv (by omega) (by omega) (by omega) (fun q x hx hg=>Nat.le_trans (apg hc.full hx hg) h4)).mono fun e w' ⟨a,b,c⟩=>⟨a,b,c⟩
theorem an0 (M:MS) (v:HV):(zg M.T).length≤(zg (aaj M v).1.T).length:=by
 unfold aaj
 split
 ·exact Nat.le_refl _
 ·split
  ·exact Nat.le_refl _
  ·split
   ·exact Nat.le_refl _
   ·split
    ·exact Nat.le_refl _
    ·simp[zg]
theorem FrM.cells {m:Mb} {vto vtf:Value} {w:World} {g a b c:Nat} (hv:vtf.ownBlock=some g) (ht:m.tb≠g) (x y z:Value):FrM m vto vtf w (((w.setCell ⟨g,a,none⟩ x).setCell ⟨g,b,none⟩ y).setCell ⟨g,c,none⟩ z):=by
 have oth:∀k,k≠g→(((w.setCell ⟨g,a,none⟩ x).setCell ⟨g,b,none⟩ y).setCell ⟨g,c,none⟩ z).heap[k]?=w.heap[k]?:=fun k hk=>by rw[zo _ hk,zo _ hk,zo _ hk]
 exact⟨rfl,rfl,rfl,by simp[World.setCell],fun k _ _ _ _ h4=>oth k (fun e=>h4 (by rw[hv,e])),fun k _=>World.cell?_of_block (oth _ ht)⟩
theorem ajv {B:Nat} {w:World} {m:Mb} {M:MS} {cs:Array Value} {T:TypeId} {vto vtf:Value} (h:MvAt B w m M cs T vto vtf) (hc:Cap M) {i:Nat} (hi:i<(zg M.T).length) :
  Calls prog 52 #[.pointer (some ⟨m.mv,0,none⟩),.int .i64 i] w fun e w'=>e=.returned (.tuple #[])∧MvPost B m (aby M i) T vto vtf w w':=by
 obtain⟨v,hv⟩:∃v,(zg M.T)[i]?=some v:=⟨_,List.getElem?_eq_getElem hi⟩
 have hn:=hc.nT v (List.mem_of_getElem? hv)
 have H:=zc h
 have HC:=zc hc
 have HFM:=zc (acm hv)
 have m0:=h.m0
 obtain⟨gf,capf,hvf⟩:∃gf capf,vtf=.slice (some ⟨gf,0,none⟩) (zg M.T).length capf:=by
  obtain⟨g,cap,e,_⟩:=aa1 h.tpart.flds (j:=0) (by omega)
  exact⟨g,cap,e⟩
 have c2:w.cell? ⟨m.tb,m.tp+2,none⟩=some (.slice (some ⟨gf,0,none⟩) (zg M.T).length capf):=by rw[←hvf];exact(zd h.tpart.blk _).trans h.tpart.e2
 have key:∀r,r<3→w.cell? ⟨gf,i*3+r,none⟩=(aaw v)[r]?:=fun r hr=>by
  obtain⟨g,cap,e,_,q,_⟩:=aa1 h.tpart.flds (j:=i*3+r) (by omega)
  rw[hvf] at e
  cases e
  rw[q]
  exact ac6 hv hr
 have d0:w.cell? ⟨gf,i*3,none⟩=some (.int .i64 v.kind):=key 0 (by omega)
 have d1:w.cell? ⟨gf,i*3+1,none⟩=some (.int .i64 v.n):=key 1 (by omega)
 have d2:w.cell? ⟨gf,i*3+2,none⟩=some (.string v.s):=key 2 (by omega)
 have hi2:(i:Int)<((zg M.T).length:Int):=by omega
 have HN:=zc hn
 have HI:=zc hi
 clear h hc hv hn hi hvf key
 go_enter func52,ntmps52
 go_wp2_with fail
 refine(ahc (za H) (za HC) v (za HN)).mono ?_
 rintro e w1 ⟨rfl,hp⟩
 clear m0 c2 d0 d1 d2
 obtain⟨hF,cs',vto',vtf',hM,e1,e2⟩:=hp
 have hlen:=an0 M v
 generalize (aaj M v).1=M1 at *
 generalize (aaj M v).2=u at *
 have hi1:i<(zg M1.T).length:=Nat.lt_of_lt_of_le (za HI) hlen
 obtain⟨w2,hw2⟩:∃w2,w1.alloc (.cells #[.int .i64 u.kind,.int .i64 u.n,.string u.s] 69)=w2:=⟨_,rfl⟩
 have hb2:Below w1.heap.size w1 w2:=by rw[←hw2];exact(Below.refl _ _).alloc (Nat.le_refl _) _
 have hk2:w2.heap[w1.heap.size]?=some (.cells #[.int .i64 u.kind,.int .i64 u.n,.string u.s] 69 (0,0)):=by rw[←hw2];exact aan _ _
 have hM2:=hM.keep hb2
 obtain⟨gg,capg,hvg⟩:∃gg capg,vtf'=.slice (some ⟨gg,0,none⟩) (zg M1.T).length capg:=by
  obtain⟨g,cap,e,_⟩:=aa1 hM.tpart.flds (j:=0) (by omega)
  exact⟨g,cap,e⟩
 have p0:=hM2.m0
 have p2:w2.cell? ⟨m.tb,m.tp+2,none⟩=some (.slice (some ⟨gg,0,none⟩) (zg M1.T).length capg):=by rw[←hvg];exact(zd hM2.tpart.blk _).trans hM2.tpart.e2
 have x0:=zd hk2 0
 have x1:=zd hk2 1
 have x2:=zd hk2 2
 have gT:Typ w1 gg 69:=zu hM.tpart.flds (by rw[hvg];rfl)
 have n1:gg≠m.mv:=gT.ne hM.ymv (by decide)
 have n2:gg≠m.tb:=gT.ne hM.tb_ty (ab5 hM.tT).2.1.symm
 have n3:gg≠w1.heap.size:=Nat.ne_of_lt gT.lt
 have tgt:∀r,r<3→(∃u',w2.cell? ⟨gg,i*3+r,none⟩=some u')∧w2.frozen? ⟨gg,i*3+r,none⟩=false:=fun r hr=>by
  obtain⟨g,cap,e,_,q,z⟩:=aa1 hM2.tpart.flds (j:=i*3+r) (by omega)
  rw[hvg] at e
  cases e
  refine⟨?_,z⟩
  rw[q]
  have hl:i*3+r<(acg M1.T).length:=by unfold acg;rw[adf];omega
  exact⟨_,List.getElem?_eq_getElem hl⟩
 obtain⟨⟨t0,y0⟩,z0⟩:=tgt 0 (by omega)
 obtain⟨⟨t1,y1⟩,z1⟩:=tgt 1 (by omega)
 obtain⟨⟨t2,y2⟩,z2⟩:=tgt 2 (by omega)
 have y0:w2.cell? ⟨gg,i*3,none⟩=some t0:=y0
 have z0:w2.frozen? ⟨gg,i*3,none⟩=false:=z0
 have y1':=fun q=>aas (v:=q) (i:=i*3) y1 (by omega)
 have y2':=fun q q'=>aap (v:=q) (v':=q') (i:=i*3) (i':=i*3+1) y2 (by omega) (by omega)
 have hi3:(i:Int)<((zg M1.T).length:Int):=by omega
 have HM2:=zc hM2
 have HVG:=zc hvg
 have HI1:=zc hi1
 have HB2:=zc hb2
 have HTB:=zc (hlt hM.tpart.blk)
 have HF:=zc hF
 have HE1:=zc e1
 have HE2:=zc e2
 clear hM2 hvg hi1 hb2 hF e1 e2 hM tgt hk2 gT y1 y2 hlen hi2
 go_wp2_with fail
 go_region_held3 (fun w'=>w'.cell? ⟨m.mv,0,none⟩=some (.pointer (some ⟨m.tb,m.tp,none⟩))∧w'.cell? ⟨m.tb,m.tp+2,none⟩=some (.slice (some ⟨gg,0,none⟩) (zg M1.T).length capg)∧w'.cell? ⟨w1.heap.size,0,none⟩=some (.int .i64 u.kind)∧w'.cell? ⟨w1.heap.size,1,none⟩=some (.int .i64 u.n)∧w'.cell? ⟨w1.heap.size,2,none⟩=some (.string u.s)) (go_keep) (fail)
 all_goals
  go_end0
  refine⟨rfl,?_⟩
  rw[za HFM]
  have hs:=((za HM2).fieldSet (za HVG) (za HI1) u).keep (Below.drew (Below.refl _ _))
  have f1:FrM m vto' vtf' w1 w2:=FrM.of_below (za HB2) (za HTB)
  have f2:FrM m vto' vtf' w2 (((w2.setCell ⟨gg,i*3,none⟩ (.int .i64 u.kind)).setCell ⟨gg,i*3+1,none⟩ (.int .i64 u.n)).setCell ⟨gg,i*3+2,none⟩ (.string u.s)):=FrM.cells (by rw[za HVG];rfl) (Ne.symm n2) _ _ _
  have f3:=((f1.trans f2 (Or.inl rfl) (Or.inl rfl)).later (w'':=(((w2.setCell ⟨gg,i*3,none⟩ (.int .i64 u.kind)).setCell ⟨gg,i*3+1,none⟩ (.int .i64 u.n)).setCell ⟨gg,i*3+2,none⟩ (.string u.s)).drew) (Nat.le_refl _) rfl rfl rfl (za HTB) (fun _ _=>rfl))
  exact MvPost.trans (za HF) (za HE1) (za HE2) ⟨f3,_,vto',vtf',hs,Or.inl rfl,Or.inl rfl⟩
end Go.Proofs.YtpnghfghdbijlaaGreatDoor
