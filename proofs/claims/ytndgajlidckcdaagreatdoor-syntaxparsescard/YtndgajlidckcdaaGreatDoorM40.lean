/- A part. -/
import Derived.Test.YtndgajlidckcdaaGreatDoorM39
open Go.Proofs.Tryz
namespace Go.Proofs.YtndgajlidckcdaaGreatDoor
open Go.RowKit
set_option linter.unusedVariables false
set_option linter.unusedSimpArgs false
set_option maxRecDepth 100000
set_option maxHeartbeats 8000000
theorem at0 {w:World} (hrt:RT w w.heap.size) (hfi:azs w) (s:ByteArray) (hs:s.size≤3000) (v:Value) (hlex:∀w',Add w w'→Calls prog 31 #[.string s] w' fun e w''=>LexPost (abq 3002 (acf s v)).1 (abq 3002 (acf s v)).2 w' e w'') :
  Calls prog 7 #[.string s] w fun e w'=>avz (adb s v) w e w':=by
 obtain⟨q,hq0⟩:∃q,adb s v=q:=⟨_,rfl⟩
 rw[hq0]
 have HQ0:=zb hq0
 clear hq0
 have hL:=aty 26 0 (by omega) (by omega)
 have HL:=zb hL
 have b0:decide ((3000:Int)<(s.size:Int))=false:=by simp;omega
 have HRT:=zb hrt
 obtain⟨i0,hi0,hz0,hz1,hz2⟩:=info_parts zz
 obtain⟨tf,ff,hfb⟩:=hfi
 have hgl:0<w.heap.size:=(gtE hfb).1
 have HFB:=zb hfb
 have hfirst:=aw7 (f:=3001) (S:=acf s v) ⟨hs,Nat.zero_le _,(show (1:Nat)≤0+1 by omega)⟩ (by show s.size-0<3001;omega)
 have HFIRST:Hid ((∃e p,abv (acf s v)=.inl (e,p)∧abq 3002 (acf s v)=([],(e,(p:Int))))∨(∃(T:LS) (r:List Tok×(Int×Int)),abv (acf s v)=.inr T∧abq 3002 (acf s v)=(zv T :: r.1,r.2)∧Follows T r.1 r.2)):=hfirst
 obtain⟨ts,bad,hlx⟩:∃ts bad,abq 3002 (acf s v)=(ts,bad):=⟨_,_,rfl⟩
 rw[hlx] at hlex HFIRST
 have HLX:=zb hlex
 clear hrt hlex hL hfb hfirst hlx
 go_enter func7,ntmps7
 go_wp2_with fail
 have ha1:Add w (w.alloc (.cells #[.int .i64 0,.int .i64 0] 25)):=(Add.refl w).alloc _
 refine(za HLX _ ha1).mono ?_
 rintro e w2 ⟨va,rfl,ha2,hrow,hfew⟩
 have HB3:=zb ((ha2.block w.heap.size (by simp)).trans (aaq w (.cells #[.int .i64 0,.int .i64 0] 25)))
 have HA2:=zb (ha1.trans ha2)
 have HFEW:=zb hfew
 have hsz2:w.heap.size<w2.heap.size:=by have:=ha2.size;simp at this;omega
 have f0:w2.cell? ⟨0,0,none⟩=some (.int .i64 0):=zd (((za HA2).block _ hgl).trans (za HFB)) 0
 have f1:w2.cell? ⟨0,1,none⟩=some (.int .i64 (-1)):=zd (((za HA2).block _ hgl).trans (za HFB)) 1
 have hg2:0<w2.heap.size:=by omega
 have r0:w2.cell? ⟨w.heap.size,0,none⟩=some (.int .i64 0):=zd (za HB3) 0
 have r1:w2.cell? ⟨w.heap.size,1,none⟩=some (.int .i64 0):=zd (za HB3) 1
 have rf:=zp (za HB3)
 clear ha1 ha2 hfew HLX
 rcases za HFIRST with ⟨e0,p0,hadv,hlx⟩ | ⟨T,rr,hadv,hlx,hfol⟩
 ·injection hlx with hl1 hl2
  subst hl1
  subst hl2
  have HRD:=zb ((za HQ0).symm.trans (ba8 hadv))
  have HE0:=zb (ath hadv)
  obtain⟨qa,qc,rfl⟩:∃qa qc,va=.slice qa 0 qc:=by
   rcases hrow with ⟨rfl,_⟩ | ⟨g,cap,rfl,_⟩
   ·exact⟨_,_,rfl⟩
   ·exact⟨_,_,rfl⟩
  clear hrow hadv HFIRST
  go_upto_region 6 with fail
  have HA0:=zb (((za HA2).alloc (.cells #[.int .i64 e0,.int .i64 (p0:Int)] 25)).alloc (.cells #[.slice qa 0 qc,.int .i64 0,.int .i64 0,.int .i64 (-1),.int .i64 e0,.int .i64 (p0:Int)] 72))
  have HB0:=zb (((aam _ (.cells #[.slice qa 0 qc,.int .i64 0,.int .i64 0,.int .i64 (-1),.int .i64 e0,.int .i64 (p0:Int)] 72) (by simp;omega)).trans (aam w2 (.cells #[.int .i64 e0,.int .i64 (p0:Int)] 25) hsz2)).trans (za HB3))
  have hbb:=(aam (w2.alloc (.cells #[.int .i64 e0,.int .i64 (p0:Int)] 25)) (.cells #[.slice qa 0 qc,.int .i64 0,.int .i64 0,.int .i64 (-1),.int .i64 e0,.int .i64 (p0:Int)] 72) (by simp:w2.heap.size<(w2.alloc (.cells #[.int .i64 e0,.int .i64 (p0:Int)] 25)).heap.size)).trans (aaq w2 (.cells #[.int .i64 e0,.int .i64 (p0:Int)] 25))
  have p0':=zd hbb 0
  have p1':=zd hbb 1
  simp only[List.getElem?_toArray,List.getElem?_cons_zero,List.getElem?_cons_succ] at p0' p1'
  clear r0 r1 rf f0 f1 hbb HB3 HA2
  generalize ((w2.alloc (.cells #[.int .i64 e0,.int .i64 (p0:Int)] 25)).alloc (.cells #[.slice qa 0 qc,.int .i64 0,.int .i64 0,.int .i64 (-1),.int .i64 e0,.int .i64 (p0:Int)] 72))=w0 at *
  have r0:w0.cell? ⟨w.heap.size,0,none⟩=some (.int .i64 0):=zd (za HB0) 0
  have r1:w0.cell? ⟨w.heap.size,1,none⟩=some (.int .i64 0):=zd (za HB0) 1
  have rf:=zp (za HB0)
  go_region
  go_wp2_with fail
  exact bodyPost_ret (v:=.tuple #[.pointer none,.agg #[.int .i64 e0,.int .i64 (p0:Int)]]) (by simp[results,Tryz.results7,go_sem,r0,r1]) rfl ⟨ak3 (afh (afh (za HA0) (Nat.le_refl _) 0 _) (Nat.le_refl _) 1 _),Or.inl ⟨(e0,p0),za HRD,za HE0,rfl⟩⟩
 ·injection hlx with hl1 hl2
  subst hl1
  subst hl2
  rcases hrow with ⟨_,h0⟩ | ⟨g,cap,rfl,hg1,hg3,cs,tt,fr,hgb,hcs⟩
  ·cases h0
  ·have HRD:=zb ((za HQ0).symm.trans (bdt hadv))
   have HCS:=zb hcs
   have HGB:=zb hgb
   have HFOL:=zb hfol
   have HADV:=zb hadv
   clear hcs hgb hfol hadv HFIRST
   have hlen:(((zv T :: rr.1).length:Nat):Int)≠0:=by simp;omega
   have hlen2:((((zv T :: rr.1).length:Nat):Int)==0)=false:=by simp;omega
   obtain⟨N,hN⟩:∃N,(zv T :: rr.1).length=N:=⟨_,rfl⟩
   rw[hN] at hlen hlen2 ⊢
   have HN:=zb hN
   go_upto_region 7 with fail
   obtain⟨pb,hpb⟩:∃pb,pb=w2.heap.size+1:=⟨_,rfl⟩
   have hfit:Fit (acf s v):=⟨hs,Nat.zero_le _,(show (1:Nat)≤0+1 by omega)⟩
   have hok:=ag0 hfit (za HADV)
   have HAT:Hid (At ((w2.alloc (.cells #[.int .i64 rr.2.1,.int .i64 rr.2.2] 25)).alloc (.cells #[.slice (some ⟨g,0,none⟩) N cap,.int .i64 0,.int .i64 0,.int .i64 (-1),.int .i64 rr.2.1,.int .i64 rr.2.2] 72)) pb (.inr T)):=by
    refine⟨hok.1,zv T :: rr.1,rr.2,0,⟨⟨g,cap,?_,by omega,cs,tt,fr,?_,za HCS⟩,za HFEW,Nat.zero_le _,?_⟩,rfl,za HFOL,ant (za HADV)⟩
    ·rw[za HN,hpb]
     exact aex _ _ (by simp)
    ·exact((aam _ _ (by simp;omega)).trans (aam _ _ hg3)).trans (za HGB)
    ·refine((za HRT).keep (w':=_) fun k hk=>?_).up (by omega)
     exact((aam _ _ (by simp;omega)).trans (aam _ _ (by omega))).trans ((za HA2).block k hk)
   have hd0:T.dp=0:=hok.2.2.dp
   have HA0:=zb (((za HA2).alloc (.cells #[.int .i64 rr.2.1,.int .i64 rr.2.2] 25)).alloc (.cells #[.slice (some ⟨g,0,none⟩) N cap,.int .i64 0,.int .i64 0,.int .i64 (-1),.int .i64 rr.2.1,.int .i64 rr.2.2] 72))
   have HB0:=zb (((aam _ (.cells #[.slice (some ⟨g,0,none⟩) N cap,.int .i64 0,.int .i64 0,.int .i64 (-1),.int .i64 rr.2.1,.int .i64 rr.2.2] 72) (by simp;omega)).trans (aam w2 (.cells #[.int .i64 rr.2.1,.int .i64 rr.2.2] 25) hsz2)).trans (za HB3))
   rw[←hpb]
   generalize ((w2.alloc (.cells #[.int .i64 rr.2.1,.int .i64 rr.2.2] 25)).alloc (.cells #[.slice (some ⟨g,0,none⟩) N cap,.int .i64 0,.int .i64 0,.int .i64 (-1),.int .i64 rr.2.1,.int .i64 rr.2.2] 72))=w0 at *
   have hpl:pb<w0.heap.size:=(za HAT).lt
   have hwp:w.heap.size<pb:=by omega
   clear HCS HGB HFOL HADV HB3 HRT HA2 f0 f1 r0 r1 rf hg2 hg1 hg3 hlen hlen2 hpb HFEW hN HN hfit
   go_cut [7] from 9 (fun n wc=>∃nb,n=.pointer (some ⟨nb,0,none⟩)∧Hid (apd q pb w0 nb T.tl 3002 wc))
   case first =>
    go_wp2_with fail
    refine(aav (za HAT) 1).mono ?_
    rintro e w3 ⟨nb,ln,rfl,hnb,hsz,hb,ha,hln⟩
    obtain rfl:=hln T rfl
    have HI:Hid (apd q pb w0 nb T.tl 3002 w3):=⟨ha.ext pb,Or.inr ⟨T,[],_,[],(za HAT).add ha,hd0,⟨hnb,⟨_,hb⟩,Or.inl ⟨rfl,rfl⟩,rfl,fun i h=>absurd h (Nat.not_lt_zero i)⟩,Nat.zero_le _,by omega,(za HRD).symm⟩⟩
    clear ha hb hln hsz
    go_wp2_with fail
    go_meet
    case rel=>exact⟨nb,rfl,HI⟩
   case rest =>
   obtain⟨nb,rfl,HI⟩:=hcut
   clear HAT HRD hok hd0
   go_wp2_with fail
   go_loopg [] 3002 (fun gg wr=>apd q pb w0 nb T.tl gg wr)
   case atStart=>exact za HI
   case round =>
    clear HI
    obtain⟨hx0,⟨f,hq,hA⟩ | ⟨S',acc,ks,vs,hA,hdp,hu,hacc,hgg,hE⟩⟩:=hrel
    ·
     have HX0:=zb hx0
     have HA:=zb hA
     have HQ:=zb hq
     have HB3:=zb ((hx0.block w.heap.size (by have:=(za HA0).size;omega) (by omega)).trans (za HB0))
     have r0:wr.cell? ⟨w.heap.size,0,none⟩=some (.int .i64 0):=zd (za HB3) 0
     have r1:wr.cell? ⟨w.heap.size,1,none⟩=some (.int .i64 0):=zd (za HB3) 1
     have rf:=zp (za HB3)
     obtain⟨_,tsx,badx,ix,hpbx⟩:=za HA
     obtain⟨⟨gq,capq,c0⟩,c1,c2,c3,c4,c5,hfr⟩:=hpbx.cells
     clear hx0 hA hq hpbx hfr c0 c1 c4 c5
     go_wp2_with fail
     refine(aat (za HA)).mono ?_
     rintro e w8 ⟨rfl,hz⟩
     obtain rfl:=hz.symm
     dsimp only [okB]
     go_wp2_with fail
     refine(aat (za HA)).mono ?_
     rintro e w8 ⟨rfl,hz⟩
     obtain rfl:=hz.symm
     dsimp only [okB]
     go_wp2_with fail
     go_region
     go_wp2_with fail
     exact bodyPost_ret (v:=.tuple #[.pointer none,.agg #[.int .i64 f.1,.int .i64 (f.2:Int)]]) (by simp[results,Tryz.results7,go_sem,r0,r1]) rfl ⟨ak3 (afh (afh (atz (za HA0) (za HX0) (by omega)) (Nat.le_refl _) 0 _) (Nat.le_refl _) 1 _),Or.inl ⟨f,za HQ,(za HA).1,rfl⟩⟩
    ·
     have hok:=hA.ok rfl
     have htp:S'.tp≤3000:=Nat.le_trans hok.tp (Nat.le_trans hok.fit.pl hok.fit.size)
     have hte:=tok_end (S:=S') hA.clean.kinds
     obtain⟨f,hgf⟩:∃f,gk=f+1:=⟨gk-1,by omega⟩
     subst hgf
     have HE:=zb hE
     have HX0:=zb hx0
     have HA:=zb hA
     have HU:=zb hu
     have HOK:=zb hok
     have hvs:vs.length≤4000:=by rw[hu.len];omega
     have hsw0:=hx0.size
     have hf0:=fld0
     clear hE hx0 hA hu hok
     by_cases hk0:S'.kd=0
     ·have hte2:((((zv S').kind:Nat):Int) !=101)=false:=by rw[hte];simp[hk0]
      have HE1:Hid (q=.inr (nd 1 T.tl acc,S')):=by
       have:=za HE
       rw[aeg,if_pos hk0] at this
       exact this.symm
      clear hte HE hk0
      go_wp2_with fail
      refine(aat (za HA)).mono ?_
      rintro e w8 ⟨rfl,hz⟩
      obtain rfl:=hz.symm
      dsimp only [okB]
      go_wp2_with fail
      refine(abg (za HA)).mono ?_
      rintro e w8 ⟨x,rfl,ha,hx0⟩
      obtain rfl:=hx0 S' rfl
      unfold acx
      have HA8:=zb ((za HA).add ha)
      have HX8:=zb ((za HX0).trans (ha.ext pb))
      have HU8:=zb ((za HU).ext (ha.ext pb) fun j hj=>by omega)
      clear ha hx0 HA HX0 HU
      go_wp2_with fail
      refine(aat (za HA8)).mono ?_
      rintro e w9 ⟨rfl,hz⟩
      obtain rfl:=hz.symm
      dsimp only [okB]
      go_wp2_with fail
      have hnd:NodeAt (fun j=>w0.heap.size≤j) w8 (.pointer (some ⟨nb,0,none⟩)) (nd 1 T.tl acc):=(za HU8).node
      refine(aqd (nd 1 T.tl acc) _ hnd).mono ?_
      rintro e w9 ⟨rfl,hz⟩
      obtain rfl:=hz.symm
      have HND:=zb hnd
      have HB3:=zb (((za HX8).block w.heap.size (by have:=(za HA0).size;omega) (by omega)).trans (za HB0))
      have r0:w8.cell? ⟨w.heap.size,0,none⟩=some (.int .i64 0):=zd (za HB3) 0
      have r1:w8.cell? ⟨w.heap.size,1,none⟩=some (.int .i64 0):=zd (za HB3) 1
      have rf:=zp (za HB3)
      have HAF:=zb (atz (za HA0) (za HX8) (by omega))
      have hw0:=(za HA0).size
      clear hnd
      obtain⟨M,hM⟩:∃M,wrap64 ((nd 1 T.tl acc).many:Int)=M:=⟨_,rfl⟩
      rw[hM]
      by_cases hmany:1200<M
      ·go_wp2_with fail
       refine(aqe w8 4).mono ?_
       rintro e w9 ⟨rfl,ha⟩
       have HB4:=zb ((ha.block _ (gtE (za HB3)).1).trans (za HB3))
       have y0:w9.cell? ⟨w.heap.size,0,none⟩=some (.int .i64 0):=zd (za HB4) 0
       have y1:w9.cell? ⟨w.heap.size,1,none⟩=some (.int .i64 0):=zd (za HB4) 1
       have yf:=zp (za HB4)
       have HAG:=zb ((za HAF).trans ha)
       clear ha r0 r1 rf
       go_wp2_with fail
       exact bodyPost_ret (v:=.tuple #[.pointer none,.agg #[.int .i64 4,.int .i64 (-1)]]) (by simp[results,Tryz.results7,go_sem,y0,y1]) rfl ⟨afh (afh (za HAG) (Nat.le_refl _) 0 _) (Nat.le_refl _) 1 _,Or.inr (Or.inl ⟨_,_,za HE1,by rw[hM];exact hmany,rfl⟩)⟩
      ·have f0:w8.cell? ⟨0,0,none⟩=some (.int .i64 0):=zd (((za HAF).block _ hgl).trans (za HFB)) 0
       have f1:w8.cell? ⟨0,1,none⟩=some (.int .i64 (-1)):=zd (((za HAF).block _ hgl).trans (za HFB)) 1
       have hmany2:M≤1200:=by omega
       go_wp2_with fail
       go_region
       go_wp2_with fail
       refine bodyPost_ret (v:=.tuple #[.pointer (some ⟨nb,0,none⟩),.agg #[.int .i64 0,.int .i64 (-1)]]) (by simp[results,Tryz.results7,go_sem,r0,r1]) rfl ⟨ak3 (afh (afh (za HAF) (Nat.le_refl _) 0 _) (Nat.le_refl _) 1 _),Or.inr (Or.inr ⟨_,_,nb,za HE1,by rw[hM];omega,rfl,?_⟩)⟩
       refine NodeAt.keep (fun j hj=>by omega) (fun j hj hl=>?_) _ _ (za HND)
       exact(aaf _ (by omega)).trans (aaf _ (by omega))
     ·have hte2:((((zv S').kind:Nat):Int) !=101)=true:=by rw[hte];simp[hk0]
      have HE1:Hid ((bnd (bnd (aak (abr 26) S') fun t S1=>aeg (abr 26) f (acc++[t]) S1) fun ks S1=>.inr (nd 1 T.tl ks,S1))=q):=by
       have:=za HE
       rw[aeg,if_neg hk0] at this
       exact this
      have HON:=zb (fun (y:Tree×LS) (e:aak (abr 26) S'=.inr y)=>aiv (afc 26) _ _ _ (za HOK) (show aak (abr 26) S'=.inr (y.1,y.2) from e))
      have HK0:=zb hk0
      clear hte HE hk0
      go_wp2_with fail
      refine(aat (za HA)).mono ?_
      rintro e w8 ⟨rfl,hz⟩
      obtain rfl:=hz.symm
      dsimp only [okB]
      go_wp2_with fail
      refine(abg (za HA)).mono ?_
      rintro e w8 ⟨x,rfl,ha,hx0⟩
      obtain rfl:=hx0 S' rfl
      unfold acx
      have HA8:=zb ((za HA).add ha)
      have HX8:=zb ((za HX0).trans (ha.ext pb))
      have HU8:=zb ((za HU).ext (ha.ext pb) fun j hj=>by omega)
      clear ha hx0 HA HX0 HU
      go_wp2_with fail
      clear hf0 hte2
      refine(abu (za HA8) ae5).mono ?_
      rintro e w9 ⟨rfl,ha⟩
      have HA:=zb ((za HA8).add ha)
      have HX0:=zb ((za HX8).trans (ha.ext pb))
      have HU:=zb ((za HU8).ext (ha.ext pb) fun j hj=>by omega)
      clear ha HA8 HX8 HU8
      cases hcl:S'.is ae5
      ·rw[show zq (.inr S') ae5=false from hcl]
       go_wp2_with fail
       refine(abu (za HA) wFn).mono ?_
       rintro e w10 ⟨rfl,ha⟩
       have HA8:=zb ((za HA).add ha)
       have HX8:=zb ((za HX0).trans (ha.ext pb))
       have HU8:=zb ((za HU).ext (ha.ext pb) fun j hj=>by omega)
       clear ha HA HX0 HU
       have HA:=HA8
       have HX0:=HX8
       have HU:=HU8
       clear HA8 HX8 HU8
       cases hfn:S'.is wFn
       ·rw[show zq (.inr S') wFn=false from hfn]
        have hout:aak (abr 26) S'=(abr 26).S S':=by rw[aak,if_neg (by rw[hcl];decide),if_neg (by rw[hfn];decide)]
        have hcall:∀w',At w' pb (.inr S')→Calls prog 40 #[.pointer (some ⟨pb,0,none⟩),.int .i64 1] w' fun e w''=>RN (aak (abr 26) S') pb w' e w'':=fun w' h=>by
         rw[hout]
         exact(za HL).s w' pb (.inr S') h (fun T e=>by cases e;exact hdp)
        have HCALL:=zb hcall
        obtain⟨t0,hb4⟩:=(za HU).cells
        have d5:w10.cell? ⟨nb,5,none⟩=some ks:=zd hb4 5
        have g5:=zp hb4 5
        have hent:=ap6 pb 1
        clear hb4 hout hcall hcl hfn
        go_wp2_with fail
        refine ags (S:=fun w'=>w'.cell? ⟨nb,5,none⟩=some ks) 11 (by kernel_rfl) d5 (fun hHeld=>?_)
        refine tkc 0 37 rfl ?_
        refine tkc 1 38 rfl ?_
        refine tkc 2 39 rfl ?_
        refine tkc 3 40 rfl ?_
        simp only[sA,sB,sC]
        refine afx (i:=4) (cs:=[8,11]) (oi:={ dst:=some 41,op:=_,type:=_,pos:=_,after:=_,guard:=_ }) (v:=?_) rfl (by kernel_rfl) (by kernel_rfl) (by kernel_rfl) (by rfl) (by kernel_rfl) (fun _ _ _ h=>h) (Or.inl ⟨by rfl,?_⟩) (by assumption) ?_
        case refine_2 =>
         intro w hSw
         try dsimp only at hSw
         go_simp
         try with_reducible rfl
        simp only[Act.put,sA,sB,sC]
        refine tkc 5 42 rfl ?_
        simp only[sA,sB,sC]
        refine ac4 (i:=6) (o:={ dst:=some 43,op:=_,type:=_,pos:=_,after:=_,guard:=_ }) (by kernel_rfl) rfl (fun K hK=>?_)
        refine ahd rfl (by simp[Act.eval,hent,go_sem]) ((za HCALL _ (za HA).drew).mono ?_)
        rintro e w2 ⟨kb,rfl,hx,h2,hv⟩
        obtain⟨e5,e5a,HO2,HU2⟩:=abl (za HU).drew hx (by omega)
        have HV2:=zb hv
        have HA2:=zb h2
        have HX2:=zb (((za HX0).drew).trans hx)
        clear hv h2 hx
        refine hK.out _ _ e5 (fun hHeld=>?_)
        clear hK K
        simp only[Act.put,sA,sB,sC]
        refine ac4 (i:=7) (o:={ dst:=some 44,op:=_,type:=_,pos:=_,after:=_,guard:=_ }) (by kernel_rfl) rfl (fun K hK=>?_)
        go_simp
        refine hK.out _ _ (e5a _) (fun hHeld=>?_)
        clear hK K
        refine ac4 (i:=8) (o:={ dst:=some 45,op:=_,type:=_,pos:=_,after:=_,guard:=_ }) (by kernel_rfl) rfl (fun K hK=>?_)
        refine step_append_lies _ rfl _ _ _ rfl 0 22 i0 (.pointer none) 1 8 underlying51 hi0 hz0 hz1 hz2 rfl (by decide) ks vs.length vs rfl ((za HO2).alloc _) ⟨w2.heap.size,0,none⟩ 1 1 [.pointer (some ⟨kb,0,none⟩)] rfl rfl (cell_one_new _ _ _) (fun u hu=>by simp at hu;subst hu;rfl) (by decide) (by unfold maxLen;omega) (by omega) (Nat.zero_le _) (w2.heap.size+1) (by simp) ?_
        intro g cap w3 hown3 hgrow hat hlt
        obtain⟨e6,f6,HU3,HX3,HA3⟩:=aeq (q:=aak (abr 26) S') rfl (za HU).drew (za HU2) hpl (za HA2) (za HX2) (za HV2) _ hown3 hgrow hat
        clear hown3 hgrow hat hlt
        refine hK.out _ _ e6 (fun hHeld=>?_)
        clear hK K
        simp only[Act.put,sA,sB,sC]
        refine tkc 9 46 rfl ?_
        refine tkc 10 47 rfl ?_
        simp only[sA,sB,sC]
        refine ajn (o:={ dst:=none,op:=_,type:=_,pos:=_,after:=_,guard:=_ }) (by kernel_rfl) rfl (fun K hK=>?_)
        go_simp
        refine hK.out _ _ ?_
        clear hK K
        refine wpAny_done (by kernel_rfl) ?_ _
        clear hHeld
        clear d5 g5 e5 e5a e6 f6 HU2 HV2 HA2 HX2 HO2
        go_wp2_with fail
        go_roundg f
        case measure=>omega
        case rel =>
         refine⟨za HX3,?_⟩
         have hE:=za HE1
         have hA:=za HA3
         cases e1:aak (abr 26) S' with
         | inl fl =>
          rw[e1] at hE
          have hA':At _ pb (zg (aak (abr 26) S')):=hA
          rw[e1] at hA'
          exact Or.inl ⟨fl,hE.symm,hA'⟩
         | inr y =>
          rw[e1] at hE
          have hA':At _ pb (zg (aak (abr 26) S')):=hA
          rw[e1] at hA'
          have on:=za HON y e1
          have htp4:=on.tp
          exact Or.inr ⟨y.2,acc++[y.1],_,_,hA',on.same.dp.trans hdp,za HU3 y.1 y.2 e1,by simp;omega,by omega,hE⟩
       ·rw[show zq (.inr S') wFn=true from hfn]
        have hout:aak (abr 26) S'=fnP (abr 26) S':=by rw[aak,if_neg (by rw[hcl];decide),if_pos hfn]
        have HOUT:=zb hout
        have hsw1:=(za HX0).size
        clear hout hcl
        go_wp2_with fail
        refine(aav (za HA) 5).mono ?_
        rintro e v1 ⟨fb,ln,rfl,hfb,hsz,hbk,ha,hln⟩
        obtain rfl:=hln S' rfl
        have HA1:=zb ((za HA).add ha)
        have HX1:=zb ((za HX0).trans (ha.ext pb))
        have HW1:=zb (show Ext pb w10 v1 from ha.ext pb)
        have hpw:pb<w10.heap.size:=by omega
        have HF1:Hid (Und (fun j=>w10.heap.size≤j) v1 fb 5 zc zc 0 S'.tl [] (.slice none 0 0) []):=⟨hfb,⟨_,hbk⟩,Or.inl ⟨rfl,rfl⟩,rfl,fun i h=>absurd h (Nat.not_lt_zero i)⟩
        clear ha hbk hln hsz
        go_wp2_with fail
        refine(aeo (za HA1) (aai hfn)).mono ?_
        rintro e v2 ⟨rfl,hx,h2⟩
        have HA2:=zb h2
        have HX2:=zb ((za HX1).trans hx)
        have HW2:=zb ((za HW1).trans hx)
        have HF2:=zb ((za HF1).ext hx fun j hj=>by omega)
        have HD2:Hid (Dp 0 (zg (zi S'))):=aa6 hfn ▸ Dp.eat wFn (za HA1) (fun T e=>by cases e;exact hdp)
        clear hx h2 HA1 HX1 HW1 HF1
        go_wp2_with fail
        refine(aep (za HA2)).mono ?_
        rintro e v3 ⟨tf',rfl,hx,h3,htx⟩
        have HTF:=zb htx
        have hu3:=(za HF2).ext hx fun j hj=>by omega
        obtain⟨t9,hb9⟩:=hu3.cells
        have d1:v3.cell? ⟨fb,1,none⟩=some (.string zc):=zd hb9 1
        have g1:=zp hb9
        have hfl:=(gtE hb9).1
        have HF3:Hid (Und (fun j=>w10.heap.size≤j) (v3.setCell ⟨fb,1,none⟩ (.string tf')) fb 5 tf' zc 0 S'.tl [] (.slice none 0 0) []):=hu3.put 1 (.string tf') (tx':=tf') rfl
        have HA3:=zb (h3.putNew (show pb<fb by omega) 1 (.string tf'))
        have HX3:=zb (((za HX2).trans hx).setNew ⟨fb,1,none⟩ (show w0.heap.size≤fb by omega) (.string tf'))
        have HW3:=zb (((za HW2).trans hx).setNew ⟨fb,1,none⟩ hfb (.string tf'))
        have hfl2:fb<(v3.setCell ⟨fb,1,none⟩ (.string tf')).heap.size:=by simpa [World.setCell] using hfl
        have HD3:=zb (Dp.name (za HA2) (za HD2))
        clear hx h3 htx hu3 hb9 HA2 HX2 HW2 HF2 HD2
        go_wp2_with fail
        clear d1 g1
        generalize (v3.setCell ⟨fb,1,none⟩ (.string tf'))=v4 at *
        refine(ak2 (za HA3) (za HD3) (by omega) (za HL)).mono ?_
        rintro e w11 ⟨vb,us,rfl,hrow,hus,hx,h11,hv⟩
        have HV:=zb hv
        have hu11:=(za HF3).ext hx fun j hj=>by omega
        obtain⟨t9,hb9⟩:=hu11.cells
        have d5:w11.cell? ⟨fb,5,none⟩=some (.slice none 0 0):=zd hb9 5
        have g1:=zp hb9
        have HA11:=zb (h11.putNew (show pb<fb by omega) 5 vb)
        have HX11:=zb (((za HX3).trans hx).setNew ⟨fb,5,none⟩ (show w0.heap.size≤fb by omega) vb)
        have HW11:=zb (((za HW3).trans hx).setNew ⟨fb,5,none⟩ hfb vb)
        have HU11:=zb ((za HU).ext (za HW11) fun j hj=>by omega)
        have HV12:Hid (∀a T,aak (abr 26) S'=.inr (a,T)→aaa w10.heap.size a (.pointer (some ⟨fb,0,none⟩)) (w11.setCell ⟨fb,5,none⟩ vb)):=by
         intro a T e
         rw[za HOUT] at e
         obtain⟨s',T1,pp,k1,k2,rfl⟩:=fn_val e
         have e1:=za HTF s' T1 k1
         have hl:=za HV pp T (by rw[k1];exact k2)
         have:=(hu11.setKids hl hfl2).node
         rw[e1] at this
         exact this
        obtain⟨gp,gl,gc,rfl⟩:∃gp gl gc,vb=.slice gp gl gc:=by
         rcases hrow with ⟨rfl,_⟩ | ⟨g',cap',cur,rfl,_⟩
         ·exact⟨_,_,_,rfl⟩
         ·exact⟨_,_,_,rfl⟩
        obtain⟨t8,hb8⟩:=(za HU11).cells
        have n5:(w11.setCell ⟨fb,5,none⟩ (.slice gp gl gc)).cell? ⟨nb,5,none⟩=some ks:=zd hb8 5
        have n5a:∀o,((w11.setCell ⟨fb,5,none⟩ (.slice gp gl gc)).alloc o).cell? ⟨nb,5,none⟩=some ks:=fun o=>zd ((aam _ _ (gtE hb8).1).trans hb8) 5
        have HO:Hid ((w11.setCell ⟨fb,5,none⟩ (.slice gp gl gc)).ownsRow 0 22 1 ks vs.length vs):=(za HU11).row.owns
        have HA12:Hid (At (w11.setCell ⟨fb,5,none⟩ (.slice gp gl gc)) pb (zg (aak (abr 26) S'))):=by rw[za HOUT,fn_st];exact za HA11
        clear hx h11 hv hu11 hb9 HA3 HX3 HW3 HF3 hrow hb8 HV HTF HA11
        obtain⟨W,hW⟩:∃W,(w11.setCell ⟨fb,5,none⟩ (.slice gp gl gc))=W:=⟨_,rfl⟩
        rw[hW] at n5 HO HA12 HU11 HX11 HV12
        simp only[hW] at n5a
        have hWs:W.heap.size=w11.heap.size:=by rw[←hW];simp[World.setCell]
        have HWs:=zb hWs
        clear hWs
        have HHW:=zb hW
        clear hW
        go_wp2_with (first | (rw[za HHW]) | (at_builtin;refine wpList_append_lies _ rfl _ _ _ rfl 0 22 i0 (.pointer none) 1 8 underlying51 hi0 hz0 hz1 hz2 rfl (by decide) ks vs.length vs rfl ((za HO).alloc _) ⟨W.heap.size,0,none⟩ 1 1 [.pointer (some ⟨fb,0,none⟩)] rfl rfl (cell_one_new _ _ _) (fun u hu=>by simp at hu;subst hu;rfl) (by decide) (by unfold maxLen;omega) (by omega) (Nat.zero_le _) (W.heap.size+1) (by simp) ?_))
        intro g' cap' w13 hown hgrow hat hlt
        obtain⟨e6,f6,HU13,HX13,HA13⟩:=aeq (q:=aak (abr 26) S') rfl (za HU) (za HU11) hpl (za HA12) (za HX11) (za HV12) _ hown hgrow hat
        clear hown hgrow hat hlt d5 n5 n5a g1 HO HV12 HX11 HA12 HU11
        go_wp2_with fail
        go_roundg f
        case measure=>omega
        case rel =>
         refine⟨za HX13,?_⟩
         have hE:=za HE1
         have hA:=za HA13
         cases e1:aak (abr 26) S' with
         | inl fl =>
          rw[e1] at hE hA
          exact Or.inl ⟨fl,hE.symm,hA⟩
         | inr y =>
          rw[e1] at hE hA
          have on:=za HON y e1
          have htp4:=on.tp
          exact Or.inr ⟨y.2,acc++[y.1],_,_,hA,on.same.dp.trans hdp,za HU13 y.1 y.2 e1,by simp;omega,by omega,hE⟩
      ·rw[show zq (.inr S') ae5=true from hcl]
       have hout:aak (abr 26) S'=ace (abr 26) S':=by rw[aak,if_pos hcl]
       have hcall:∀w',At w' pb (.inr S')→Calls prog 36 #[.pointer (some ⟨pb,0,none⟩)] w' fun e w''=>RN (aak (abr 26) S') pb w' e w'':=fun w' h=>by
        rw[hout]
        exact ax8 h hdp (za HL) hcl
       have HCALL:=zb hcall
       obtain⟨t0,hb4⟩:=(za HU).cells
       have d5:w9.cell? ⟨nb,5,none⟩=some ks:=zd hb4 5
       have g5:=zp hb4 5
       have hent:∀w:World,Sem.run prog (callFunc 36 #[.pointer (some ⟨pb,0,none⟩)]) w=.ok (.enter 36 #[.pointer (some ⟨pb,0,none⟩)]) w:=fun _=>by kernel_rfl
       clear hb4 hout hcall hcl
       go_wp2_with fail
       refine ags (S:=fun w'=>w'.cell? ⟨nb,5,none⟩=some ks) 11 (by kernel_rfl) d5 (fun hHeld=>?_)
       refine tkc 0 51 rfl ?_
       refine tkc 1 52 rfl ?_
       refine tkc 2 53 rfl ?_
       refine tkc 3 54 rfl ?_
       simp only[sA,sB,sC]
       refine afx (i:=4) (cs:=[8,11]) (oi:={ dst:=some 55,op:=_,type:=_,pos:=_,after:=_,guard:=_ }) (v:=?_) rfl (by kernel_rfl) (by kernel_rfl) (by kernel_rfl) (by rfl) (by kernel_rfl) (fun _ _ _ h=>h) (Or.inl ⟨by rfl,?_⟩) (by assumption) ?_
       case refine_2 =>
        intro w hSw
        try dsimp only at hSw
        go_simp
        try with_reducible rfl
       simp only[Act.put,sA,sB,sC]
       refine tkc 5 56 rfl ?_
       simp only[sA,sB,sC]
       refine ac4 (i:=6) (o:={ dst:=some 57,op:=_,type:=_,pos:=_,after:=_,guard:=_ }) (by kernel_rfl) rfl (fun K hK=>?_)
       refine ahd rfl (by simp[Act.eval,hent,go_sem]) ((za HCALL _ (za HA).drew).mono ?_)
       rintro e w2 ⟨kb,rfl,hx,h2,hv⟩
       obtain⟨e5,e5a,HO2,HU2⟩:=abl (za HU).drew hx (by omega)
       have HV2:=zb hv
       have HA2:=zb h2
       have HX2:=zb (((za HX0).drew).trans hx)
       clear hv h2 hx
       refine hK.out _ _ e5 (fun hHeld=>?_)
       clear hK K
       simp only[Act.put,sA,sB,sC]
       refine ac4 (i:=7) (o:={ dst:=some 58,op:=_,type:=_,pos:=_,after:=_,guard:=_ }) (by kernel_rfl) rfl (fun K hK=>?_)
       go_simp
       refine hK.out _ _ (e5a _) (fun hHeld=>?_)
       clear hK K
       refine ac4 (i:=8) (o:={ dst:=some 59,op:=_,type:=_,pos:=_,after:=_,guard:=_ }) (by kernel_rfl) rfl (fun K hK=>?_)
       refine step_append_lies _ rfl _ _ _ rfl 0 22 i0 (.pointer none) 1 8 underlying51 hi0 hz0 hz1 hz2 rfl (by decide) ks vs.length vs rfl ((za HO2).alloc _) ⟨w2.heap.size,0,none⟩ 1 1 [.pointer (some ⟨kb,0,none⟩)] rfl rfl (cell_one_new _ _ _) (fun u hu=>by simp at hu;subst hu;rfl) (by decide) (by unfold maxLen;omega) (by omega) (Nat.zero_le _) (w2.heap.size+1) (by simp) ?_
       intro g cap w3 hown3 hgrow hat hlt
       obtain⟨e6,f6,HU3,HX3,HA3⟩:=aeq (q:=aak (abr 26) S') rfl (za HU).drew (za HU2) hpl (za HA2) (za HX2) (za HV2) _ hown3 hgrow hat
       clear hown3 hgrow hat hlt
       refine hK.out _ _ e6 (fun hHeld=>?_)
       clear hK K
       simp only[Act.put,sA,sB,sC]
       refine tkc 9 60 rfl ?_
       refine tkc 10 61 rfl ?_
       simp only[sA,sB,sC]
       refine ajn (o:={ dst:=none,op:=_,type:=_,pos:=_,after:=_,guard:=_ }) (by kernel_rfl) rfl (fun K hK=>?_)
       go_simp
       refine hK.out _ _ ?_
       clear hK K
       refine wpAny_done (by kernel_rfl) ?_ _
       clear hHeld
       clear d5 g5 e5 e5a e6 f6 HU2 HV2 HA2 HX2 HO2
       go_wp2_with fail
       go_roundg f
       case measure=>omega
       case rel =>
        refine⟨za HX3,?_⟩
        have hE:=za HE1
        have hA:=za HA3
        cases e1:aak (abr 26) S' with
        | inl fl =>
         rw[e1] at hE
         have hA':At _ pb (zg (aak (abr 26) S')):=hA
         rw[e1] at hA'
         exact Or.inl ⟨fl,hE.symm,hA'⟩
        | inr y =>
         rw[e1] at hE
         have hA':At _ pb (zg (aak (abr 26) S')):=hA
         rw[e1] at hA'
         have on:=za HON y e1
         have htp4:=on.tp
         exact Or.inr ⟨y.2,acc++[y.1],_,_,hA',on.same.dp.trans hdp,za HU3 y.1 y.2 e1,by simp;omega,by omega,hE⟩
theorem au6 {w:World} (s:ByteArray) (hs:3000<s.size) (hm:s.size≤9223372036854775807):Calls prog 7 #[.string s] w fun e w'=>e=.returned (.tuple #[.pointer none,.agg #[.int .i64 4,.int .i64 (-1)]])∧Add w w':=by
 have b0:(3000:Int)<(s.size:Int):=by omega
 have b1:decide ((3000:Int)<(s.size:Int))=true:=by simpa using b0
 go_enter func7,ntmps7
 go_wp2_with fail
 refine(aqe _ 4).mono ?_
 rintro e w2 ⟨rfl,ha⟩
 have HB:=zb ((ha.block w.heap.size (by simp)).trans (aaq w (.cells #[.int .i64 0,.int .i64 0] 25)))
 have r0:w2.cell? ⟨w.heap.size,0,none⟩=some (.int .i64 0):=zd (za HB) 0
 have r1:w2.cell? ⟨w.heap.size,1,none⟩=some (.int .i64 0):=zd (za HB) 1
 have rf:=zp (za HB)
 have HA:=zb (((Add.refl w).alloc (.cells #[.int .i64 0,.int .i64 0] 25)).trans ha)
 clear ha
 go_wp2_with fail
 exact bodyPost_ret (v:=.tuple #[.pointer none,.agg #[.int .i64 4,.int .i64 (-1)]]) (by simp[results,Tryz.results7,go_sem,r0,r1]) rfl ⟨rfl,afh (afh (za HA) (Nat.le_refl _) 0 _) (Nat.le_refl _) 1 _⟩
def afy (w:World) (s:ByteArray) (v:Value) (Q:List Tok×(Int×Int)):{ G:Nat→Value→Value→Value→World→Prop // LexEnv w→s.size≤3000→abq 3002 (acf s v)=Q→(∀gg out line i wr,anw s v Q w gg out line i wr→G gg out line i wr)→Calls prog 31 #[.string s] w fun e w'=>LexPost (abq 3002 (acf s v)).1 (abq 3002 (acf s v)).2 w e w' }:=by
 apply Subtype.mk
 case property =>
  intro henv hs hQ hround
  rw[hQ]
  have HR:=zb hround
  clear hround
  have HI:Hid (anw s v Q w (s.size+1) (.slice none 0 0) (.int .i64 1) (.int .i64 0) (w.alloc (.cells #[.int .i64 0,.int .i64 0] 25))) :=
   ⟨[],0,1,3002,rfl,rfl,Nat.zero_le _,by omega,by omega,by omega,Nat.zero_le _,(Add.refl w).alloc _,aaq _ _,⟨rfl,Or.inl ⟨rfl,rfl⟩⟩,hQ⟩
  clear hQ henv hs
  go_enter func31,ntmps31
  go_wp2_with fail
  go_loopg [4,5,6] (s.size+1) (fun gg out line i wr=>anw s v Q w gg out line i wr)
  case atStart=>exact za HI
  case round =>
   clear HI
   rename_i Q2 J K hJ hK
   revert hK hJ K J u237 u236 u235 u234 u233 u232 u231 u230 u229 u228 u227 u226 u225 u224 u223 u222 u221 u220 u219 u218 u217 u216 u215 u214 u213 u212 u211 u210 u209 u208 u207 u206 u205 u204 u203 u202 u201 u200 u199 u198 u197 u196 u195 u194 u193 u192 u191 u190 u189 u188 u187 u186 u185 u184 u183 u182 u181 u180 u179 u178 u177 u176 u175 u174 u173 u172 u171 u170 u169 u168 u167 u166 u165 u164 u163 u162 u161 u160 u159 u158 u157 u156 u155 u154 u153 u152 u151 u150 u149 u148 u147 u146 u145 u144 u143 u142 u141 u140 u139 u138 u137 u136 u135 u134 u133 u132 u131 u130 u129 u128 u127 u126 u125 u124 u123 u122 u121 u120 u119 u118 u117 u116 u115 u114 u113 u112 u111 u110 u109 u108 u107 u106 u105 u104 u103 u102 u101 u100 u99 u98 u97 u96 u95 u94 u93 u92 u91 u90 u89 u88 u87 u86 u85 u84 u83 u82 u81 u80 u79 u78 u77 u76 u75 u74 u73 u72 u71 u70 u69 u68 u67 u66 u65 u64 u63 u62 u61 u60 u59 u58 u57 u56 u55 u54 u53 u52 u51 u50 u49 u48 u47 u46 u45 u44 u43 u42 u41 u40 u39 u38 u37 u36 u35 u34 u33 u32 u31 u30 u29 u28 u27 u26 u25 u24 u23 u22 u21 u20 u19 u18 u17 u16 u15 u14 u13 u11 u10 u9 u8 u7 u2 Q2
   exact za HR _ _ _ _ _ hrel
theorem au7 {w:World} {s:ByteArray} {v:Value} {Q:List Tok×(Int×Int)} (henv:LexEnv w) (hs:s.size≤3000) {acc:List Tok} {il ll Fu gg:Nat} {u4:Value} {wr:World} (hil:il≤s.size) (hll:ll≤il+1) (hgg:gg=s.size-il+1) (hF:s.size-il<Fu) (hacc:acc.length≤il) (HAD:Hid (Add w wr)) (HB3:Hid (wr.heap[w.heap.size]?=some (.cells #[.int .i64 0,.int .i64 0] 25 (0,0)))) (HOW:Hid (wr.ownsRow (w.heap.size+1) 75 5 u4 acc.length (acc.flatMap aao))) (HQ:Hid ((acc++(abq Fu (atS s v il ll)).1,(abq Fu (atS s v il ll)).2)=Q)) (hlt:il<s.size) (c:Nat) (hc:c=s[il].toNat) (h10:¬c=10) (h32:¬c=32) (hl:lt (c:Int)=true):(afy w s v Q).1 gg u4 (.int .i64 (ll:Int)) (.int .i64 (il:Int)) wr:=by
 have HENV:=zb henv
 obtain⟨i0,hi0,hz0,hz1,hz2⟩:=info_parts ahm
 have HE:=zb ((za HENV).keep fun k hk=>(za HAD).block k hk)
 clear henv
 have hne:((il:Int)==(s.size:Int))=false:=by simp;omega
 have hlt2:(il:Int)<(s.size:Int):=by omega
 have hc256:c<256:=by rw[hc];exact UInt8.toNat_lt _
 have HC:=zb hc
 have hnb:(c==32)=false:=by simp;exact h32
 have hnb2:(c==10)=false:=by simp;exact h10
 have HADV:=zb (alg (v:=v) (l:=ll) hlt (by rw[←hc];exact h10) (by rw[←hc];exact h32))
 have m32:(((s[il].toNat:Nat):Int)==32)=false:=by rw[←hc];simp;omega
 have m10:(((s[il].toNat:Nat):Int)==10)=false:=by rw[←hc];simp;omega
 have o32:¬((s[il].toNat:Nat):Int)=32:=by rw[←hc];omega
 have o10:¬((s[il].toNat:Nat):Int)=10:=by rw[←hc];omega
 clear hc
 have n32:(((c:Nat):Int)==32)=false:=by simp;omega
 have n10:(((c:Nat):Int)==10)=false:=by simp;omega
 delta afy
 intro _
 intros
 rename_i J K hJ hK
 have hl2:lt (c:Int)=true:=hl
 have hlc:lt ((s[il].toNat:Nat):Int)=true:=by rw[←za HC];exact hl
 go_wp2_with fail
 rw[←za HC]
 refine(ahl (c:Int) _).mono ?_
 rintro e wz ⟨rfl,rfl⟩
 rw[hl2]
 obtain⟨E,hE⟩:∃E,ab1 s nb (s.size-il) il=E:=⟨_,rfl⟩
 have HEE:=zb hE
 have HTB0:=zb (TB.start (za HAD) (za HB3) (za HOW) il ll)
 clear hE hl hl2
 generalize (wr.alloc (.cells #[.int .u8 0,.string ⟨#[]⟩,.int .i64 0,.int .i64 (il:Int),.int .i64 (ll:Int)] 75))=W0 at *
 go_wp2_with fail
 go_loopg [6] (s.size-il+1) (fun gg i wz=>∃j:Nat,i=.int .i64 (j:Int)∧il≤j∧j≤s.size∧gg=s.size-j+1∧W0=wz∧Hid (ab1 s nb (s.size-j) j=E))
 case atStart=>exact⟨il,rfl,Nat.le_refl _,hil,rfl,rfl,HEE⟩
 case round =>
  obtain⟨j,rfl,hj1,hj2,hgj,rfl,HR⟩:=hrel
  go_upto_region 25 with fail
  go_cut [101] from 86 to 103 (fun b wc=>b=.bool (ah3 nb s j)∧W0=wc)
  case first =>
   by_cases hjs:j<s.size
   ·have hji:(j:Int)<(s.size:Int):=by omega
    have HA:=zb (avq (B:=nb) hjs)
    cases hlt:lt ((s[j].toNat:Nat):Int)
    ·go_wp2_with (first | (go_at_call 58;refine(ahl _ _).mono ?_;rintro e w1 ⟨rfl,rfl⟩;rw[hlt]) | (go_at_call 59;refine(aio _ _).mono ?_;rintro e w1 ⟨rfl,rfl⟩))
     go_meet
     case rel=>exact⟨by rw[za HA];unfold nb;rw[hlt,Bool.false_or],rfl⟩
    ·go_wp2_with (go_at_call 58;refine(ahl _ _).mono ?_;rintro e w1 ⟨rfl,rfl⟩;rw[hlt])
     go_meet
     case rel=>exact⟨by rw[za HA];unfold nb;rw[hlt,Bool.true_or],rfl⟩
   ·have hji:¬(j:Int)<(s.size:Int):=by omega
    go_wp2_with fail
    go_meet
    case rel=>exact⟨by rw[as6 hjs],rfl⟩
  case rest =>
  obtain⟨rfl,rfl⟩:=hcut
  cases hat:ah3 nb s j
  ·have hEj:j=E:=(avr hat).symm.trans (za HR)
   subst hEj
   clear hat HR
   have t0:W0.cell? ⟨wr.heap.size,0,none⟩=some (.int .u8 0):=zd (za HTB0).box 0
   have t1:W0.cell? ⟨wr.heap.size,1,none⟩=some (.string ⟨#[]⟩):=zd (za HTB0).box 1
   have t3:W0.cell? ⟨wr.heap.size,3,none⟩=some (.int .i64 (il:Int)):=zd (za HTB0).box 3
   have fz:=zp (za HTB0).box
   have hji:(il:Int)≤(j:Int):=by omega
   have hjs2:(j:Int)≤(s.size:Int):=by omega
   go_wp2_with fail
   go_region
   have HTB1:=zb ((((za HTB0).put 0 (.int .u8 110) (y:=⟨110,⟨#[]⟩,0,il,ll⟩) rfl).put 1 (.string (s.extract il j)) (y:=⟨110,s.extract il j,0,il,ll⟩) rfl).drew)
   clear t0 t1 t3 fz HTB0 hji hjs2
   generalize (((W0.setCell ⟨wr.heap.size,0,none⟩ (.int .u8 110)).setCell ⟨wr.heap.size,1,none⟩ (.string (s.extract il j))).drew)=W1 at *
   obtain⟨gw,ow,cw,hw1,hw2⟩:=((za HENV).keep fun k hk=>(za HTB1).add.block k hk).words
   have HW2:=zb hw2
   have t1:W1.cell? ⟨wr.heap.size,1,none⟩=some (.string (s.extract il j)):=zd (za HTB1).box 1
   clear hw2
   go_wp2_with fail
   refine(bcr afa rfl (s.extract il j) W1 gw ow cw (za HW2)).mono ?_
   rintro e wz ⟨rfl,hz⟩
   obtain rfl:=hz.symm
   have HAL:=zb (adv_let (v:=v) (ll:=ll) hlt hlc (za HEE))
   clear hw1 HW2
   cases hw:isW (s.extract il j)
   ·rw[show ae9 afa (s.extract il j)=false from hw]
    have t3:W1.cell? ⟨wr.heap.size,3,none⟩=some (.int .i64 (il:Int)):=zd (za HTB1).box 3
    have hsx:(s.extract il j).size=j-il:=by rw[ByteArray.size_extract];omega
    by_cases h16:16<j-il
    ·have HADV2:Hid (abe (aa5 s v il ll)=.inl (4,il)):=by
      have:=za HAL
      rw[if_neg (by rw[hw];decide),if_pos (by rw[hsx];exact h16)] at this
      exact this
     have g16:(16:Int)<(j:Int)-(il:Int):=by omega
     have b0:W1.cell? ⟨w.heap.size,0,none⟩=some (.int .i64 0):=zd (za HTB1).b3 0
     have b1:W1.cell? ⟨w.heap.size,1,none⟩=some (.int .i64 0):=zd (za HTB1).b3 1
     have fz:=zp (za HTB1).b3
     clear hsx h16 HAL hw
     go_wp2_with fail
     go_region
     go_wp2_with fail
     have hq:Q=(acc,((4:Int),(((il):Nat):Int))):=by
      obtain⟨F,rfl⟩:∃F,Fu=F+1:=⟨Fu-1,by omega⟩
      exact agj ((za HADV).trans (za HADV2)) (za HQ)
     exact bodyPost_ret (v:=.tuple #[u4,.agg #[.int .i64 4,.int .i64 ((il:Nat):Int)]]) (by simp[results,Tryz.results31,go_sem,b0,b1]) rfl ((agk (za HTB1) hq (by omega) _ _)).drew
    ·have HADV2:Hid (abe (aa5 s v il ll)=.inr { aa5 s v il ll with pl:=j,kd:=2,tx:=s.extract il j }):=by
      have:=za HAL
      rw[if_neg (by rw[hw];decide),if_neg (by rw[hsx];exact h16)] at this
      exact this
     have g16:¬(16:Int)<(j:Int)-(il:Int):=by omega
     have hlj:il<j:=by
      have:=za HEE
      rcases Nat.lt_or_ge il j with h | h
      ·exact h
      ·exfalso
       obtain rfl:il=j:=by omega
       rw[ahe hlt (by unfold nb;rw[hlc];rfl)] at this
       have:=(anx s nb (s.size-(il+1)) (il+1) (by omega)).1
       omega
     clear hsx h16 HAL
     go_upto_region 58 with fail
     clear t1 t3 hw
     have HTB:=HTB1
     obtain⟨k0,k1,k2,k3,k4⟩:W1.cell? ⟨wr.heap.size,0,none⟩=some (.int .u8 (110:Nat))∧W1.cell? ⟨wr.heap.size,1,none⟩=some (.string (s.extract il j))∧W1.cell? ⟨wr.heap.size,2,none⟩=some (.int .i64 0)∧W1.cell? ⟨wr.heap.size,3,none⟩=some (.int .i64 (il:Int))∧W1.cell? ⟨wr.heap.size,4,none⟩=some (.int .i64 (ll:Int)):=⟨zd (za HTB).box 0,zd (za HTB).box 1,zd (za HTB).box 2,zd (za HTB).box 3,zd (za HTB).box 4⟩
     have HOA:=zb (((za HTB).own).alloc (.cells #[.int .u8 (110:Nat),.string (s.extract il j),.int .i64 0,.int .i64 (il:Int),.int .i64 (ll:Int)] 75))
     have hacc3:acc.length≤3000:=by omega
     go_wp2_with (at_builtin;refine wpList_append_lies _ rfl _ _ _ rfl (w.heap.size+1) 75 i0 (.agg #[.int .u8 0,.string ByteArray.empty,.int .i64 0,.int .i64 0,.int .i64 0]) 5 48 underlying67 hi0 hz0 hz1 hz2 rfl (by decide) _ acc.length (acc.flatMap aao) rfl (za HOA) ⟨W1.heap.size,0,none⟩ 1 1 [.int .u8 (110:Nat),.string (s.extract il j),.int .i64 0,.int .i64 (il:Int),.int .i64 (ll:Int)] rfl rfl (World.news_of_block (aaq _ _)) ?t2c2 (by decide) ?t2c3 ?t2c4 ?t2c5 (W1.heap.size+1) ?t2c6 ?_)
     case t2c2=>first | exact⟨rfl,rfl,rfl,rfl,rfl⟩ | (intro u hu;simp at hu;rcases hu with rfl | rfl | rfl | rfl | rfl <;> rfl)
     case t2c3=>unfold maxLen;omega
     case t2c4=>omega
     case t2c5=>have:=(za HTB).far;have:=(gtE (za HTB).box).1;simp;omega
     try case t2c6=>simp
     intro g cap w3 hown hgrow hat hlt3
     obtain⟨had,hb3⟩:=afw (za HTB).add (za HTB).b3 (za HTB).own hgrow
     have HT1:=zb had
     have HT2:=zb hb3
     have HT3:=zb hown
     clear had hb3 hown hgrow hat hlt3 k0 k1 k2 k3 k4 HOA
     go_wp2_with fail
     go_roundg (s.size-j+1)
     case measure=>omega
     case rel=>exact ag4 (T:={ aa5 s v il ll with pl:=j,kd:=2,tx:=s.extract il j }) (x:=⟨110,(s.extract il j),0,il,ll⟩) ((za HADV).trans (za HADV2)) (show (_:Nat)≠0 from (show (2:Nat)≠0 by decide)) rfl rfl rfl rfl rfl rfl (za HQ) (by omega) (by omega) hll hF hacc (za HT1) (za HT2) (za HT3)
   ·rw[show ae9 afa (s.extract il j)=true from hw]
    have t0:W1.cell? ⟨wr.heap.size,0,none⟩=some (.int .u8 110):=zd (za HTB1).box 0
    have fz:=zp (za HTB1).box
    have HADV2:Hid (abe (aa5 s v il ll)=.inr { aa5 s v il ll with pl:=j,kd:=1,mrk:=s.extract il j }):=by
     have:=za HAL
     rw[if_pos hw] at this
     exact this
    have hlj:il<j:=by
     have:=za HEE
     rcases Nat.lt_or_ge il j with h | h
     ·exact h
     ·exfalso
      obtain rfl:il=j:=by omega
      rw[ahe hlt (by unfold nb;rw[hlc];rfl)] at this
      have:=(anx s nb (s.size-(il+1)) (il+1) (by omega)).1
      omega
    have HW:=zb hw
    clear HAL hw
    go_upto_region 58 with fail
    have HTB:=zb ((za HTB1).put 0 (.int .u8 119) (y:=⟨119,s.extract il j,0,il,ll⟩) rfl)
    clear t0 t1 fz HTB1
    generalize (W1.setCell ⟨wr.heap.size,0,none⟩ (.int .u8 119))=W at *
    obtain⟨k0,k1,k2,k3,k4⟩:W.cell? ⟨wr.heap.size,0,none⟩=some (.int .u8 (119:Nat))∧W.cell? ⟨wr.heap.size,1,none⟩=some (.string (s.extract il j))∧W.cell? ⟨wr.heap.size,2,none⟩=some (.int .i64 0)∧W.cell? ⟨wr.heap.size,3,none⟩=some (.int .i64 (il:Int))∧W.cell? ⟨wr.heap.size,4,none⟩=some (.int .i64 (ll:Int)):=⟨zd (za HTB).box 0,zd (za HTB).box 1,zd (za HTB).box 2,zd (za HTB).box 3,zd (za HTB).box 4⟩
    have HOA:=zb (((za HTB).own).alloc (.cells #[.int .u8 (119:Nat),.string (s.extract il j),.int .i64 0,.int .i64 (il:Int),.int .i64 (ll:Int)] 75))
    have hacc3:acc.length≤3000:=by omega
    go_wp2_with (at_builtin;refine wpList_append_lies _ rfl _ _ _ rfl (w.heap.size+1) 75 i0 (.agg #[.int .u8 0,.string ByteArray.empty,.int .i64 0,.int .i64 0,.int .i64 0]) 5 48 underlying67 hi0 hz0 hz1 hz2 rfl (by decide) _ acc.length (acc.flatMap aao) rfl (za HOA) ⟨W.heap.size,0,none⟩ 1 1 [.int .u8 (119:Nat),.string (s.extract il j),.int .i64 0,.int .i64 (il:Int),.int .i64 (ll:Int)] rfl rfl (World.news_of_block (aaq _ _)) ?t1c2 (by decide) ?t1c3 ?t1c4 ?t1c5 (W.heap.size+1) ?t1c6 ?_)
    case t1c2=>first | exact⟨rfl,rfl,rfl,rfl,rfl⟩ | (intro u hu;simp at hu;rcases hu with rfl | rfl | rfl | rfl | rfl <;> rfl)
    case t1c3=>unfold maxLen;omega
    case t1c4=>omega
    case t1c5=>have:=(za HTB).far;have:=(gtE (za HTB).box).1;simp;omega
    try case t1c6=>simp
    intro g cap w3 hown hgrow hat hlt3
    obtain⟨had,hb3⟩:=afw (za HTB).add (za HTB).b3 (za HTB).own hgrow
    have HT1:=zb had
    have HT2:=zb hb3
    have HT3:=zb hown
    clear had hb3 hown hgrow hat hlt3 k0 k1 k2 k3 k4 HOA
    go_wp2_with fail
    go_roundg (s.size-j+1)
    case measure=>omega
    case rel=>exact ag4 (T:={ aa5 s v il ll with pl:=j,kd:=1,mrk:=s.extract il j }) (x:=⟨119,(s.extract il j),0,il,ll⟩) ((za HADV).trans (za HADV2)) (show (_:Nat)≠0 from Nat.one_ne_zero) rfl rfl rfl rfl rfl (aj8 rfl (za HW)) (za HQ) (by omega) (by omega) hll hF hacc (za HT1) (za HT2) (za HT3)
  ·obtain⟨hjs,hrun⟩:=azu hat
   have HR2:=zb (hrun.symm.trans (za HR))
   clear hrun HR hat
   go_wp2_with fail
   go_roundg (s.size-(j+1)+1)
   case measure=>omega
   case rel=>exact⟨j+1,by go_num,by omega,by omega,rfl,rfl,HR2⟩
end Go.Proofs.YtndgajlidckcdaaGreatDoor
