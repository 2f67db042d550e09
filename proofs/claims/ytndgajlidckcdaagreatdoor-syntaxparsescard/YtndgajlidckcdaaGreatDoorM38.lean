/- A part. -/
import Derived.Test.YtndgajlidckcdaaGreatDoorM37
open Go.Proofs.Tryz
namespace Go.Proofs.YtndgajlidckcdaaGreatDoor
open Go.RowKit
set_option linter.unusedVariables false
set_option linter.unusedSimpArgs false
set_option maxRecDepth 100000
set_option maxHeartbeats 8000000
theorem ax4 {m r:Nat} (hm:m≤25) (hr:r<6) {Q:LS→Res Tree} (hgQ:Good Q) (hQ:∀w pb s,At w pb s→Dp m s→Calls prog 107 #[.pointer (some ⟨pb,0,none⟩),.int .i64 (m:Int),.int .i64 ((r:Int)+1)] w fun e w'=>RN (run Q s) pb w e w') {w:World} {pb:Nat} {s:St} (h:At w pb s) (hd:Dp m s):Calls prog 107 #[.pointer (some ⟨pb,0,none⟩),.int .i64 (m:Int),.int .i64 (r:Int)] w fun e w'=>RN (run (afj (r+1) Q) s) pb w e w':=by
 obtain⟨q,hq0⟩:∃q,run (afj (r+1) Q) s=q:=⟨_,rfl⟩
 rw[hq0]
 have HQ0:=zb hq0
 obtain⟨ts0,bad0,i0',f0,hpb0⟩:=h.pb
 obtain⟨⟨g,o,cap,l1,l2,k1,k2⟩,⟨mm,ob,l3,l4,k3,k4,hlook⟩,l5,nl,k5⟩:=hpb0.tabs
 have hbl:3<pb∧g<pb∧4<pb∧mm<pb∧8<pb:=⟨l1,l2,l3,l4,l5⟩
 have HS0:Hid (w.cell? ⟨3,0,none⟩=some (.slice (some ⟨g,o,none⟩) 6 cap)∧w.cell? ⟨g,o+r,none⟩=some (.string (afl r))∧w.cell? ⟨4,0,none⟩=some (.map (some mm))∧w.heap[mm]?=some ob∧w.cell? ⟨8,0,none⟩=some (.int .i64 nl)):=⟨k1,k2 r hr,k3,k4,k5⟩
 have HLK:=zb hlook
 have H:=zb h
 have HD:=zb hd
 have HQ:=zb hQ
 have HG:=zb hgQ
 have hpl:=h.lt
 have hne:((r:Int)==6)=false:=by simp;omega
 have hwr:IntKind.i64.wrap ((r:Int)+1)=(r:Int)+1:=ac3 (by omega) (by omega)
 clear h hd hQ hgQ hq0 hpb0 hlook k2 k3 k4 k5
 go_enter func107,ntmps107
 go_upto_region 3 with fail
 clear k1 hne
 go_cut [7] from 9 (fun x wc=>Hid (apc (r+1) Q m q pb w 3002 x wc))
 case first =>
  go_wp2_with fail
  refine(za HQ w pb s (za H) (za HD)).mono ?_
  rintro e v1 ⟨b0,rfl,hx,h1,hv⟩
  have HI:Hid (apc (r+1) Q m q pb w 3002 (.pointer (some ⟨b0,0,none⟩)) v1):=by
   refine⟨hx,b0,rfl,?_⟩
   have hqq:=za HQ0
   cases hs:run Q s with
   | inl f =>
    rw[hs] at h1
    refine Or.inl ⟨f,?_,h1⟩
    rw[←hqq]
    unfold afj
    rw[run_bnd,hs]
    rfl
   | inr y =>
    rw[hs] at h1
    obtain⟨S,rfl,hS⟩:=agd (show run Q s=.inr (y.1,y.2) from hs)
    have on:=za HG _ _ _ ((za H).ok rfl) hS
    refine Or.inr ⟨y.2,y.1,h1,on.same.dp.trans (za HD _ rfl),hv y.1 y.2 hs,by omega,?_⟩
    rw[←hqq]
    exact(zn (k:=fun t S1=>acl (r+1) Q 3002 t S1) hS).symm
  clear hx h1 hv
  go_wp2_with fail
  go_meet
  case rel=>exact HI
 case rest =>
 have HI:=hcut
 clear hcut HQ0
 go_wp2_with fail
 go_loopg [7] 3002 (fun gg l wr=>apc (r+1) Q m q pb w gg l wr)
 case atStart=>exact za HI
 case round =>
  clear HI
  obtain⟨hx0,b,rfl,⟨f,hq,hA⟩ | ⟨S',t,hA,hdp,hN,hgg,hE⟩⟩:=hrel
  ·have HX0:=zb hx0
   have HA:=zb hA
   have HQQ:=zb hq
   have HS:=zb (ac0 hbl (za HS0) fun k hk=>hx0.block k (by omega) (by omega))
   clear hx0 hA hq
   go_wp2_with fail
   refine wp_region_held_drew (S:=fun w'=>w'.cell? ⟨3,0,none⟩=some (.slice (some ⟨g,o,none⟩) 6 cap)∧w'.cell? ⟨g,o+r,none⟩=some (.string (afl r))∧w'.cell? ⟨4,0,none⟩=some (.map (some mm))∧w'.heap[mm]?=some ob∧w'.cell? ⟨8,0,none⟩=some (.int .i64 nl)) (by kernel_rfl) (ac0 hbl (za HS) fun _ _=>rfl) (fun hHeld=>?_)
   refine tka 0 21 rfl ?_
   simp only[sA,sB,sC]
   refine wpAnyH_ready (rs:=[1]) (by kernel_rfl) (by simp) ?_
   refine AllReadyH.cons (o:={ dst:=some 22,op:=_,type:=_,pos:=_,after:=_,guard:=_ }) rfl (fun K hK=>?_) AllReadyH.nil
   refine acy (by kernel_rfl) (by simp[Act.eval,aob,go_sem]) ((aat (za HA).drew).mono ?_)
   rintro e w1 ⟨rfl,rfl⟩
   dsimp only [okB]
   refine hK.out _ _ (ac0 hbl (za HS) fun _ _=>rfl) (fun hHeld1=>?_)
   clear hK K
   simp only[Act.put,sA,sB,sC]
   refine tka 2 23 rfl ?_
   simp only[sA,sB,sC]
   refine tku 3 24 rfl ?_
   simp only[sA,sB,sC]
   refine tku 4 25 rfl ?_
   simp only[sA,sB,sC]
   refine tku 5 26 rfl ?_
   simp only[sA,sB,sC]
   refine tku 6 27 rfl ?_
   simp only[sA,sB,sC]
   refine tka 7 28 rfl ?_
   simp only[sA,sB,sC]
   refine tka 8 29 rfl ?_
   simp only[sA,sB,sC]
   refine tku 9 30 rfl ?_
   simp only[sA,sB,sC]
   refine tku 10 31 rfl ?_
   simp only[sA,sB,sC]
   refine tku 11 32 rfl ?_
   simp only[sA,sB,sC]
   refine tku 12 33 rfl ?_
   simp only[sA,sB,sC]
   refine tku 13 34 rfl ?_
   simp only[sA,sB,sC]
   refine tku 14 35 rfl ?_
   simp only[sA,sB,sC]
   refine tku 15 36 rfl ?_
   simp only[sA,sB,sC]
   refine tku 16 37 rfl ?_
   simp only[sA,sB,sC]
   refine tku 17 38 rfl ?_
   simp only[sA,sB,sC]
   refine tka 18 39 rfl ?_
   simp only[sA,sB,sC]
   refine tka 19 40 rfl ?_
   simp only[sA,sB,sC]
   refine tku 20 41 rfl ?_
   simp only[sA,sB,sC]
   refine tku 21 42 rfl ?_
   simp only[sA,sB,sC]
   refine tku 22 43 rfl ?_
   simp only[sA,sB,sC]
   refine tku 23 44 rfl ?_
   simp only[sA,sB,sC]
   refine tku 24 45 rfl ?_
   simp only[sA,sB,sC]
   refine tku 25 46 rfl ?_
   simp only[sA,sB,sC]
   refine tka 26 47 rfl ?_
   simp only[sA,sB,sC]
   refine wpAnyH_done (by kernel_rfl) ?_ _
   go_wp2_with fail
   go_ret
   refine⟨b,rfl,(za HX0).trans (Ext.refl pb _).drew,by rw[za HQQ];exact(za HA).drew,fun a T e=>by rw[za HQQ] at e;cases e⟩
  ·have hok:=hA.ok rfl
   have htp:S'.tp≤3000:=Nat.le_trans hok.tp (Nat.le_trans hok.fit.pl hok.fit.size)
   obtain⟨f,hgf⟩:∃f,gk=f+1:=⟨gk-1,by omega⟩
   subst hgf
   have hcl:=hA.clean
   have hmk:S'.kd=1→S'.mrk.size≤3000:=fun e=>Nat.le_trans (hcl.mark e) hok.fit.size
   have HE:=zb hE
   have HX0:=zb hx0
   have HA0:=zb hA
   have hsw:=hx0.size
   have HN0:=zb hN
   obtain⟨kl,kbl,kbA⟩:=NodeAt.line hN
   have HS:=zb (ac0 hbl (za HS0) fun k hk=>hx0.block k (by omega) (by omega))
   have HOK:=zb hok
   clear hE hx0 hA hN hok hcl
   go_upto_region 4 with fail
   have HA1:=zb (za HA0).drew
   have hri:(r:Int)<6:=by omega
   have hf0:=fld0
   have hf1:=fld1
   have HA:=HA0
   go_cut [47] from 21 to 66 (fun c wc=>c=.bool (decide (abc (r+1) S'≠0))∧Hid (Ext pb wr wc)∧Hid (At wc pb (.inr S')))
   case first =>
    by_cases hx:S'.kd=1∧isW S'.mrk=false
    ·obtain⟨hk1,hw⟩:=hx
     have HTOK:=zb (af8 hk1 (by rw[hw];decide))
     have hmk1:=hmk hk1
     have hmk2:¬9223372036854775807<S'.mrk.size+1:=by omega
     have hlk:=fun w' hw'=>za HLK w' hw' S'.mrk hmk1
     cases hcon:aq6 r S'.mrk
     ·
      refine wp_region_held_drew (S:=fun w'=>w'.cell? ⟨3,0,none⟩=some (.slice (some ⟨g,o,none⟩) 6 cap)∧w'.cell? ⟨g,o+r,none⟩=some (.string (afl r))∧w'.cell? ⟨4,0,none⟩=some (.map (some mm))∧w'.heap[mm]?=some ob∧w'.cell? ⟨8,0,none⟩=some (.int .i64 nl)) (by kernel_rfl) (ac0 hbl (za HS) fun _ _=>rfl) (fun hHeld=>?_)
      refine tka 0 21 rfl ?_
      simp only[sA,sB,sC]
      refine wpAnyH_ready (rs:=[1]) (by kernel_rfl) (by simp) ?_
      refine AllReadyH.cons (o:={ dst:=some 22,op:=_,type:=_,pos:=_,after:=_,guard:=_ }) rfl (fun K hK=>?_) AllReadyH.nil
      refine acy (by kernel_rfl) (by simp[Act.eval,aob,go_sem]) ((aat (za HA).drew).mono ?_)
      rintro e w1 ⟨rfl,rfl⟩
      dsimp only [okB]
      refine hK.out _ _ (ac0 hbl (za HS) fun _ _=>rfl) (fun hHeld1=>?_)
      clear hK K
      simp only[Act.put,sA,sB,sC]
      refine tka 2 23 rfl ?_
      simp only[sA,sB,sC]
      refine tka 3 24 rfl ?_
      simp only[sA,sB,sC]
      have HS1:=zb (ac0 (w':=wr.drew) hbl (za HS) fun _ _=>rfl)
      refine wpAnyH_ready (rs:=[4]) (by kernel_rfl) (by simp) ?_
      refine AllReadyH.cons (o:={ dst:=some 25,op:=_,type:=_,pos:=_,after:=_,guard:=_ }) rfl (fun K hK=>?_) AllReadyH.nil
      refine acy (by kernel_rfl) (by simp[Act.eval,aid,go_sem]) ((abg (za HA1)).mono ?_)
      rintro e w2 ⟨x,rfl,ha,hx0⟩
      obtain rfl:=hx0 S' rfl
      have HA2:=zb ((za HA1).add ha)
      have HP2:=zb ((show Ext pb wr wr.drew from (Ext.refl pb wr).drew).trans (ha.ext pb))
      have HS2:=zb (ac0 hbl (za HS1) fun k hk=>ha.block k (Nat.lt_trans hk (za HA1).lt))
      clear ha hx0
      rw[za HTOK]
      unfold acx
      refine hK.out _ _ (za HS2) (fun hHeld4=>?_)
      clear hK K
      simp only[Act.put,sA,sB,sC]
      refine tka 5 26 rfl ?_
      simp only[sA,sB,sC]
      refine tka 6 27 rfl ?_
      simp only[sA,sB,sC]
      refine tka 7 28 rfl ?_
      simp only[sA,sB,sC]
      refine tka 8 29 rfl ?_
      simp only[sA,sB,sC]
      refine tka 9 30 rfl ?_
      simp only[sA,sB,sC]
      refine tka 10 31 rfl ?_
      simp only[sA,sB,sC]
      refine tka 11 32 rfl ?_
      simp only[sA,sB,sC]
      refine tka 12 33 rfl ?_
      simp only[sA,sB,sC]
      refine tka 13 34 rfl ?_
      simp only[sA,sB,sC]
      refine wpAnyH_ready (rs:=[14]) (by kernel_rfl) (by simp) ?_
      refine AllReadyH.cons (o:={ dst:=some 35,op:=_,type:=_,pos:=_,after:=_,guard:=_ }) rfl (fun K hK=>?_) AllReadyH.nil
      refine acy (by kernel_rfl) (by simp[Act.eval,aid,go_sem]) ((abg (za HA2)).mono ?_)
      rintro e w3 ⟨x,rfl,ha,hx0⟩
      obtain rfl:=hx0 S' rfl
      have HA3:=zb ((za HA2).add ha)
      have HP3:=zb ((za HP2).trans (ha.ext pb))
      have HS3:=zb (ac0 hbl (za HS2) fun k hk=>ha.block k (Nat.lt_trans hk (za HA2).lt))
      clear ha hx0
      rw[za HTOK]
      unfold acx
      refine hK.out _ _ (za HS3) (fun hHeld14=>?_)
      clear hK K
      simp only[Act.put,sA,sB,sC]
      refine tka 15 36 rfl ?_
      simp only[sA,sB,sC]
      refine tka 16 37 rfl ?_
      simp only[sA,sB,sC]
      refine wpAnyH_ready (rs:=[17]) (by kernel_rfl) (by simp) ?_
      refine AllReadyH.cons (o:={ dst:=some 38,op:=_,type:=_,pos:=_,after:=_,guard:=_ }) rfl (fun K hK=>?_) AllReadyH.nil
      refine acy (by kernel_rfl) (by simp[Act.eval,avy,go_sem]) ((Tryz.strings_Contains (afl r) (S'.mrk++⟨#[32]⟩) nl w3 (aoc r) (za HS3).2.2.2.2).mono ?_)
      rintro e w4 ⟨rfl,rfl⟩
      rw[show Lib.contains (afl r).data.toList (S'.mrk++⟨#[32]⟩).data.toList=false from hcon]
      refine hK.out _ _ (za HS3) (fun hHeld17=>?_)
      clear hK K
      simp only[Act.put,sA,sB,sC]
      refine tka 18 39 rfl ?_
      simp only[sA,sB,sC]
      refine tka 19 40 rfl ?_
      simp only[sA,sB,sC]
      refine tku 20 41 rfl ?_
      simp only[sA,sB,sC]
      refine tku 21 42 rfl ?_
      simp only[sA,sB,sC]
      refine tku 22 43 rfl ?_
      simp only[sA,sB,sC]
      refine tku 23 44 rfl ?_
      simp only[sA,sB,sC]
      refine tku 24 45 rfl ?_
      simp only[sA,sB,sC]
      refine tku 25 46 rfl ?_
      simp only[sA,sB,sC]
      refine tka 26 47 rfl ?_
      simp only[sA,sB,sC]
      refine wpAnyH_done (by kernel_rfl) ?_ _
      go_wp2_with fail
      go_meet
      case rel=>exact⟨by rw[ajf hr hk1,hcon];rfl,HP3,HA3⟩
     ·
      refine wp_region_held_drew (S:=fun w'=>w'.cell? ⟨3,0,none⟩=some (.slice (some ⟨g,o,none⟩) 6 cap)∧w'.cell? ⟨g,o+r,none⟩=some (.string (afl r))∧w'.cell? ⟨4,0,none⟩=some (.map (some mm))∧w'.heap[mm]?=some ob∧w'.cell? ⟨8,0,none⟩=some (.int .i64 nl)) (by kernel_rfl) (ac0 hbl (za HS) fun _ _=>rfl) (fun hHeld=>?_)
      refine tka 0 21 rfl ?_
      simp only[sA,sB,sC]
      refine wpAnyH_ready (rs:=[1]) (by kernel_rfl) (by simp) ?_
      refine AllReadyH.cons (o:={ dst:=some 22,op:=_,type:=_,pos:=_,after:=_,guard:=_ }) rfl (fun K hK=>?_) AllReadyH.nil
      refine acy (by kernel_rfl) (by simp[Act.eval,aob,go_sem]) ((aat (za HA).drew).mono ?_)
      rintro e w1 ⟨rfl,rfl⟩
      dsimp only [okB]
      refine hK.out _ _ (ac0 hbl (za HS) fun _ _=>rfl) (fun hHeld1=>?_)
      clear hK K
      simp only[Act.put,sA,sB,sC]
      refine tka 2 23 rfl ?_
      simp only[sA,sB,sC]
      refine tka 3 24 rfl ?_
      simp only[sA,sB,sC]
      have HS1:=zb (ac0 (w':=wr.drew) hbl (za HS) fun _ _=>rfl)
      refine wpAnyH_ready (rs:=[4]) (by kernel_rfl) (by simp) ?_
      refine AllReadyH.cons (o:={ dst:=some 25,op:=_,type:=_,pos:=_,after:=_,guard:=_ }) rfl (fun K hK=>?_) AllReadyH.nil
      refine acy (by kernel_rfl) (by simp[Act.eval,aid,go_sem]) ((abg (za HA1)).mono ?_)
      rintro e w2 ⟨x,rfl,ha,hx0⟩
      obtain rfl:=hx0 S' rfl
      have HA2:=zb ((za HA1).add ha)
      have HP2:=zb ((show Ext pb wr wr.drew from (Ext.refl pb wr).drew).trans (ha.ext pb))
      have HS2:=zb (ac0 hbl (za HS1) fun k hk=>ha.block k (Nat.lt_trans hk (za HA1).lt))
      clear ha hx0
      rw[za HTOK]
      unfold acx
      refine hK.out _ _ (za HS2) (fun hHeld4=>?_)
      clear hK K
      simp only[Act.put,sA,sB,sC]
      refine tka 5 26 rfl ?_
      simp only[sA,sB,sC]
      refine tka 6 27 rfl ?_
      simp only[sA,sB,sC]
      refine tka 7 28 rfl ?_
      simp only[sA,sB,sC]
      refine tka 8 29 rfl ?_
      simp only[sA,sB,sC]
      refine tka 9 30 rfl ?_
      simp only[sA,sB,sC]
      refine tka 10 31 rfl ?_
      simp only[sA,sB,sC]
      refine tka 11 32 rfl ?_
      simp only[sA,sB,sC]
      refine tka 12 33 rfl ?_
      simp only[sA,sB,sC]
      refine tka 13 34 rfl ?_
      simp only[sA,sB,sC]
      refine wpAnyH_ready (rs:=[14]) (by kernel_rfl) (by simp) ?_
      refine AllReadyH.cons (o:={ dst:=some 35,op:=_,type:=_,pos:=_,after:=_,guard:=_ }) rfl (fun K hK=>?_) AllReadyH.nil
      refine acy (by kernel_rfl) (by simp[Act.eval,aid,go_sem]) ((abg (za HA2)).mono ?_)
      rintro e w3 ⟨x,rfl,ha,hx0⟩
      obtain rfl:=hx0 S' rfl
      have HA3:=zb ((za HA2).add ha)
      have HP3:=zb ((za HP2).trans (ha.ext pb))
      have HS3:=zb (ac0 hbl (za HS2) fun k hk=>ha.block k (Nat.lt_trans hk (za HA2).lt))
      clear ha hx0
      rw[za HTOK]
      unfold acx
      refine hK.out _ _ (za HS3) (fun hHeld14=>?_)
      clear hK K
      simp only[Act.put,sA,sB,sC]
      refine tka 15 36 rfl ?_
      simp only[sA,sB,sC]
      refine tka 16 37 rfl ?_
      simp only[sA,sB,sC]
      refine wpAnyH_ready (rs:=[17]) (by kernel_rfl) (by simp) ?_
      refine AllReadyH.cons (o:={ dst:=some 38,op:=_,type:=_,pos:=_,after:=_,guard:=_ }) rfl (fun K hK=>?_) AllReadyH.nil
      refine acy (by kernel_rfl) (by simp[Act.eval,avy,go_sem]) ((Tryz.strings_Contains (afl r) (S'.mrk++⟨#[32]⟩) nl w3 (aoc r) (za HS3).2.2.2.2).mono ?_)
      rintro e w4 ⟨rfl,rfl⟩
      rw[show Lib.contains (afl r).data.toList (S'.mrk++⟨#[32]⟩).data.toList=true from hcon]
      refine hK.out _ _ (za HS3) (fun hHeld17=>?_)
      clear hK K
      simp only[Act.put,sA,sB,sC]
      refine tka 18 39 rfl ?_
      simp only[sA,sB,sC]
      refine tka 19 40 rfl ?_
      simp only[sA,sB,sC]
      refine tka 20 41 rfl ?_
      simp only[sA,sB,sC]
      refine tka 21 42 rfl ?_
      simp only[sA,sB,sC]
      refine wpAnyH_ready (rs:=[22]) (by kernel_rfl) (by simp) ?_
      refine AllReadyH.cons (o:={ dst:=some 43,op:=_,type:=_,pos:=_,after:=_,guard:=_ }) rfl (fun K hK=>?_) AllReadyH.nil
      refine acy (by kernel_rfl) (by simp[Act.eval,aid,go_sem]) ((abg (za HA3)).mono ?_)
      rintro e w4 ⟨x,rfl,ha,hx0⟩
      obtain rfl:=hx0 S' rfl
      have HA4:=zb ((za HA3).add ha)
      have HP4:=zb ((za HP3).trans (ha.ext pb))
      have HS4:=zb (ac0 hbl (za HS3) fun k hk=>ha.block k (Nat.lt_trans hk (za HA3).lt))
      clear ha hx0
      rw[za HTOK]
      unfold acx
      refine hK.out _ _ (za HS4) (fun hHeld22=>?_)
      clear hK K
      simp only[Act.put,sA,sB,sC]
      refine tka 23 44 rfl ?_
      simp only[sA,sB,sC]
      refine tka 24 45 rfl ?_
      simp only[sA,sB,sC]
      refine tka 25 46 rfl ?_
      simp only[sA,sB,sC]
      refine tka 26 47 rfl ?_
      simp only[sA,sB,sC]
      refine wpAnyH_done (by kernel_rfl) ?_ _
      go_wp2_with fail
      go_meet
      case rel=>exact⟨bdn hr hk1 hcon,HP4,HA4⟩
    ·have hw:S'.kd=1→isW S'.mrk=true:=fun e=>by
      cases q:isW S'.mrk
      ·exact absurd ⟨e,q⟩ hx
      ·rfl
     have hj:abc (r+1) S'=0:=by
      by_cases e:S'.kd=1
      ·exact aqa e (hw e)
      ·exact al3 e
     obtain⟨k,tx,n,htok,hkb⟩:=ba1 hw
     have HTOK:=zb htok
     clear htok hw hx
     refine wp_region_held_drew (S:=fun w'=>w'.cell? ⟨3,0,none⟩=some (.slice (some ⟨g,o,none⟩) 6 cap)∧w'.cell? ⟨g,o+r,none⟩=some (.string (afl r))∧w'.cell? ⟨4,0,none⟩=some (.map (some mm))∧w'.heap[mm]?=some ob∧w'.cell? ⟨8,0,none⟩=some (.int .i64 nl)) (by kernel_rfl) (ac0 hbl (za HS) fun _ _=>rfl) (fun hHeld=>?_)
     refine tka 0 21 rfl ?_
     simp only[sA,sB,sC]
     refine wpAnyH_ready (rs:=[1]) (by kernel_rfl) (by simp) ?_
     refine AllReadyH.cons (o:={ dst:=some 22,op:=_,type:=_,pos:=_,after:=_,guard:=_ }) rfl (fun K hK=>?_) AllReadyH.nil
     refine acy (by kernel_rfl) (by simp[Act.eval,aob,go_sem]) ((aat (za HA).drew).mono ?_)
     rintro e w1 ⟨rfl,rfl⟩
     dsimp only [okB]
     refine hK.out _ _ (ac0 hbl (za HS) fun _ _=>rfl) (fun hHeld1=>?_)
     clear hK K
     simp only[Act.put,sA,sB,sC]
     refine tka 2 23 rfl ?_
     simp only[sA,sB,sC]
     refine tka 3 24 rfl ?_
     simp only[sA,sB,sC]
     have HS1:=zb (ac0 (w':=wr.drew) hbl (za HS) fun _ _=>rfl)
     refine wpAnyH_ready (rs:=[4]) (by kernel_rfl) (by simp) ?_
     refine AllReadyH.cons (o:={ dst:=some 25,op:=_,type:=_,pos:=_,after:=_,guard:=_ }) rfl (fun K hK=>?_) AllReadyH.nil
     refine acy (by kernel_rfl) (by simp[Act.eval,aid,go_sem]) ((abg (za HA1)).mono ?_)
     rintro e w2 ⟨x,rfl,ha,hx0⟩
     obtain rfl:=hx0 S' rfl
     have HA2:=zb ((za HA1).add ha)
     have HP2:=zb ((show Ext pb wr wr.drew from (Ext.refl pb wr).drew).trans (ha.ext pb))
     have HS2:=zb (ac0 hbl (za HS1) fun k hk=>ha.block k (Nat.lt_trans hk (za HA1).lt))
     clear ha hx0
     rw[za HTOK]
     unfold acx
     refine hK.out _ _ (za HS2) (fun hHeld4=>?_)
     clear hK K
     simp only[Act.put,sA,sB,sC]
     refine tka 5 26 rfl ?_
     simp only[sA,sB,sC]
     refine tka 6 27 rfl ?_
     simp only[sA,sB,sC]
     refine tka 7 28 rfl ?_
     simp only[sA,sB,sC]
     refine tka 8 29 rfl ?_
     simp only[sA,sB,sC]
     refine tku 9 30 rfl ?_
     simp only[sA,sB,sC]
     refine tku 10 31 rfl ?_
     simp only[sA,sB,sC]
     refine tku 11 32 rfl ?_
     simp only[sA,sB,sC]
     refine tku 12 33 rfl ?_
     simp only[sA,sB,sC]
     refine tku 13 34 rfl ?_
     simp only[sA,sB,sC]
     refine tku 14 35 rfl ?_
     simp only[sA,sB,sC]
     refine tku 15 36 rfl ?_
     simp only[sA,sB,sC]
     refine tku 16 37 rfl ?_
     simp only[sA,sB,sC]
     refine tku 17 38 rfl ?_
     simp only[sA,sB,sC]
     refine tka 18 39 rfl ?_
     simp only[sA,sB,sC]
     refine tka 19 40 rfl ?_
     simp only[sA,sB,sC]
     refine tku 20 41 rfl ?_
     simp only[sA,sB,sC]
     refine tku 21 42 rfl ?_
     simp only[sA,sB,sC]
     refine tku 22 43 rfl ?_
     simp only[sA,sB,sC]
     refine tku 23 44 rfl ?_
     simp only[sA,sB,sC]
     refine tku 24 45 rfl ?_
     simp only[sA,sB,sC]
     refine tku 25 46 rfl ?_
     simp only[sA,sB,sC]
     refine tka 26 47 rfl ?_
     simp only[sA,sB,sC]
     refine wpAnyH_done (by kernel_rfl) ?_ _
     go_wp2_with fail
     go_meet
     case rel=>exact⟨by rw[hj];rfl,HP2,HA2⟩
   case rest =>
    obtain⟨rfl,hxc,hac⟩:=hcut
    clear HA1 HA
    have HA:=hac
    have HXC:=zb ((za HX0).trans (za hxc))
    have HNC:=zb (NodeAt.ext (za HN0) (za hxc) fun j hj=>by omega)
    have hszc:=(za hxc).size
    by_cases hj0:abc (r+1) S'=0
    ·have hj1:decide (abc (r+1) S'≠0)=false:=by simp[hj0]
     have hqe:=za HE
     rw[acl,if_pos hj0] at hqe
     have HQE:=zb hqe
     clear hqe HE hj0
     rw[hj1]
     clear hj1
     go_wp2_with fail
     go_ret
     refine⟨b,rfl,za HXC,by rw[←za HQE];exact za HA,fun a T e=>?_⟩
     rw[←za HQE] at e
     cases e
     exact za HNC
    ·have hj1:decide (abc (r+1) S'≠0)=true:=by simp[hj0]
     have hk1:S'.kd=1:=by
      by_cases e:S'.kd=1
      ·exact e
      ·exact absurd (al3 e) hj0
     have hjk:abc (r+1) S'=aer S'.mrk:=by
      have:=ajf hr hk1
      rw[this]
      split
      ·rfl
      ·rename_i hz
       rw[this,if_neg hz] at hj0
       exact absurd rfl hj0
     have hw:¬isW S'.mrk=true:=fun e=>hj0 (aqa hk1 e)
     have HTOK:=zb (af8 hk1 hw)
     have hlk:=fun w' hw'=>za HLK w' hw' S'.mrk (hmk hk1)
     have hf1:=fld1
     have HS':=zb (ac0 hbl (za HS) fun k hk=>(za hxc).block k (by omega) (by omega))
     clear HS
     have HS:=HS'
     clear HS'
     have hqe:=za HE
     rw[acl,if_neg hj0,hjk] at hqe
     have HQE:=zb hqe
     have HJ0:=zb hj0
     have HDS:Hid (Dp m (zg (zi S'))):=by
      intro T e
      obtain⟨a,ha⟩:=agy e
      exact(aan (za HOK) (af5 (za HJ0)) ha).same.dp.trans hdp
     rw[hj1]
     clear hqe HE hj1 hjk hw hmk hj0 kl kbl
     go_wp2_with fail
     refine wp_region_held_drew (S:=fun w'=>w'.cell? ⟨3,0,none⟩=some (.slice (some ⟨g,o,none⟩) 6 cap)∧w'.cell? ⟨g,o+r,none⟩=some (.string (afl r))∧w'.cell? ⟨4,0,none⟩=some (.map (some mm))∧w'.heap[mm]?=some ob∧w'.cell? ⟨8,0,none⟩=some (.int .i64 nl)) (by kernel_rfl) (ac0 hbl (za HS) fun _ _=>rfl) (fun hHeld=>?_)
     refine tka 1 49 rfl ?_
     simp only[sA,sB,sC]
     refine tka 0 48 rfl ?_
     simp only[sA,sB,sC]
     refine wpAnyH_ready (rs:=[2]) (by kernel_rfl) (by simp) ?_
     refine AllReadyH.cons (o:={ dst:=some 50,op:=_,type:=_,pos:=_,after:=_,guard:=_ }) rfl (fun K hK=>?_) AllReadyH.nil
     refine acy (by kernel_rfl) (by simp[Act.eval,bdo,go_sem]) ((aeo (za HA).drew (af5 (za HJ0))).mono ?_)
     rintro e w5 ⟨rfl,hx,h5⟩
     have H5:=zb h5
     have HD5:=HDS
     have HX5:=zb (show Ext pb wc w5 from (Ext.refl pb wc).drew.trans hx)
     have HS5:=zb (ac0 hbl (za HS) fun k hk=>(za HX5).block k (Nat.lt_trans hk (za HA).lt) (by omega))
     clear hx h5
     rw[za HTOK]
     unfold acx
     refine hK.out _ _ (za HS5) (fun hHeld2=>?_)
     clear hK K
     simp only[Act.put,sA,sB,sC]
     refine tka 3 51 rfl ?_
     simp only[sA,sB,sC]
     refine tka 4 52 rfl ?_
     simp only[sA,sB,sC]
     refine tka 5 8 rfl ?_
     simp only[sA,sB,sC]
     refine wpAnyH_done (by kernel_rfl) ?_ _
     go_wp2_with fail
     obtain⟨kc,kcl,kcA⟩:=NodeAt.line (NodeAt.ext (za HNC) (za HX5) fun j hj=>by omega)
     have kl5:=kc
     have hbl5:=kcl
     clear kc kcl
     refine wp_region_held_drew (S:=fun w'=>w'.cell? ⟨b,4,none⟩=some (.int .i64 (t.line:Int))) (by kernel_rfl) kl5 (fun hHeld=>?_)
     refine tka 0 53 rfl ?_
     simp only[sA,sB,sC]
     refine tka 1 54 rfl ?_
     simp only[sA,sB,sC]
     refine tka 2 55 rfl ?_
     simp only[sA,sB,sC]
     refine tka 3 56 rfl ?_
     simp only[sA,sB,sC]
     refine tka 4 57 rfl ?_
     simp only[sA,sB,sC]
     refine tka 5 58 rfl ?_
     simp only[sA,sB,sC]
     refine tka 6 59 rfl ?_
     simp only[sA,sB,sC]
     refine tka 7 60 rfl ?_
     simp only[sA,sB,sC]
     refine tka 8 61 rfl ?_
     simp only[sA,sB,sC]
     refine tka 9 62 rfl ?_
     simp only[sA,sB,sC]
     refine wpAnyH_ready (rs:=[10]) (by kernel_rfl) (by simp) ?_
     refine AllReadyH.cons (o:={ dst:=some 63,op:=_,type:=_,pos:=_,after:=_,guard:=_ }) rfl (fun K hK=>?_) AllReadyH.nil
     refine acy (by kernel_rfl) (by simp[Act.eval,bdp,go_sem]) ((za HQ _ pb _ (za H5).drew (za HD5)).mono ?_)
     rintro e w6 ⟨c,rfl,hx,h6,hv⟩
     have H6:=zb h6
     have HX6:=zb (show Ext pb w5 w6 from (Ext.refl pb w5).drew.trans hx)
     have HV6:=zb hv
     have kl6:=(za HX6).cellk (p:=⟨b,4,none⟩) (show b<w5.heap.size by have:=(za HX5).size;omega) (show b≠pb by omega) kl5
     have hbl6:b<w6.heap.size:=by have:=(za HX5).size;have:=(za HX6).size;omega
     clear hx h6 hv
     refine hK.out _ _ kl6 (fun hHeld10=>?_)
     clear hK K
     simp only[Act.put,sA,sB,sC]
     refine wpAnyH_ready (rs:=[11]) (by kernel_rfl) (by simp) ?_
     refine AllReadyH.cons (o:={ dst:=some 64,op:=_,type:=_,pos:=_,after:=_,guard:=_ }) rfl (fun K hK=>?_) AllReadyH.nil
     go_simp
     refine hK.out _ _ (atx kl6 hbl6 _) (fun hHeld11=>?_)
     clear hK K
     refine tka 12 65 rfl ?_
     simp only[sA,sB,sC]
     refine wpAnyH_ready (rs:=[13]) (by kernel_rfl) (by simp) ?_
     refine AllReadyH.cons (o:={ dst:=some 66,op:=_,type:=_,pos:=_,after:=_,guard:=_ }) rfl (fun K hK=>?_) AllReadyH.nil
     go_simp
     refine hK.out _ _ (atx (atx kl6 hbl6 _) (by simp;omega) _) (fun hHeld13=>?_)
     clear hK K
     refine tka 14 7 rfl ?_
     simp only[sA,sB,sC]
     refine wpAnyH_done (by kernel_rfl) ?_ _
     go_wp2_with fail
     go_roundg f
     case measure=>omega
     case rel =>
      have hqe:=za HQE
      refine⟨?_,_,rfl,?_⟩
      ·exact(((za HXC).trans (za HX5)).trans (za HX6)).alloc _ |>.alloc _
      ·have h6:=(za H6).add (((Add.refl w6).alloc (.cells #[.pointer (some ⟨b,0,none⟩),.pointer (some ⟨c,0,none⟩)] 22)).alloc (.cells #[.int .i64 (aer S'.mrk:Int),.string ⟨#[]⟩,.string ⟨#[]⟩,.int .i64 0,.int .i64 (t.line:Int),.slice (some ⟨w6.heap.size,0,none⟩) 2 2] 78))
       cases e1:zi S' with
       | inl fl =>
        rw[e1] at hqe h6
        exact Or.inl ⟨fl,hqe.symm,h6⟩
       | inr y1 =>
        have q1:zg (zi S')=.inr y1.2:=by rw[e1];rfl
        rw[e1] at hqe
        rw[q1] at h6
        have o1:=aan (za HOK) (af5 (za HJ0)) (show zi S'=.inr (y1.1,y1.2) from e1)
        have h6':At _ pb (zg (Q y1.2)):=h6
        have hqe':(bnd (Q y1.2) fun u S2=>acl (r+1) Q f (ac9 (aer S'.mrk) t [u]) S2)=q:=hqe
        cases e2:Q y1.2 with
        | inl fl =>
         rw[e2] at hqe' h6'
         exact Or.inl ⟨fl,hqe'.symm,h6'⟩
        | inr y2 =>
         rw[e2] at hqe' h6'
         have o2:=za HG _ _ _ o1.ok (show Q y1.2=.inr (y2.1,y2.2) from e2)
         have k1:=o1.tp
         have k2:=o2.tp
         have hu:=za HV6 y2.1 y2.2 (by rw[q1];exact e2)
         have hs5:=(za HXC).size
         have hs6:=(za HX5).size
         have hs7:=(za HX6).size
         have ht6:=NodeAt.ext (NodeAt.ext (za HNC) (za HX5) fun j hj=>by omega) (za HX6) fun j hj=>by omega
         exact Or.inr ⟨y2.2,ac9 (aer S'.mrk) t [y2.1],h6',(o1.trans o2).same.dp.trans hdp,ba0 (by omega) ht6 (NodeAt.mono hu fun j hj=>by have:w5.heap.size≤j:=hj;omega),by omega,hqe'⟩
theorem aqb {m:Nat} (hm:m≤25) {P:LS→Res Tree} (hgP:Good P) (hP:∀w pb s,At w pb s→Dp m s→Calls prog 167 #[.pointer (some ⟨pb,0,none⟩),.int .i64 (m:Int)] w fun e w'=>RN (run P s) pb w e w') :
  ∀(n r:Nat),n+r=6→∀w pb s,At w pb s→Dp m s→Calls prog 107 #[.pointer (some ⟨pb,0,none⟩),.int .i64 (m:Int),.int .i64 (r:Int)] w fun e w'=>RN (run (jo P n) s) pb w e w'
 | 0,r,hr,w,pb,s,h,hd=>by
  obtain rfl:r=6:=by omega
  exact ax3 hP h hd
 | n+1,r,hr,w,pb,s,h,hd=>by
  have e:6-n=r+1:=by omega
  have ih:=aqb hm hgP hP n (r+1) (by omega)
  show Calls _ _ _ _ fun e w'=>RN (run (afj (6-n) (jo P n)) s) pb w e w'
  rw[e]
  exact ax4 hm (by omega) (aji hgP n) (fun w pb s h hd=>ih w pb s h hd) h hd
theorem al4 {m:Nat} (hm:m≤25) {L:Low} (hL:RLow m L) {w:World} {pb:Nat} {s:St} (h:At w pb s) (hd:Dp m s):Calls prog 167 #[.pointer (some ⟨pb,0,none⟩),.int .i64 (m:Int)] w fun e w'=>RN (run (aae L) s) pb w e w':=by
 cases s with
 | inl f=>exact ats h
 | inr S =>
  have hdp:=hd S rfl
  cases hn:S.is aff
  ·cases hi:S.is aen
   ·have e:run (aae L) (.inr S)=run (ab5 L) (.inr S):=by
     show aae L S=ab5 L S
     rw[aae,if_neg (by rw[hn];decide),if_neg (by rw[hi];decide)]
    rw[e]
    exact bdl h hdp hm hL hi hn
   ·exact aqz h hdp hm hL hi
  ·exact au3 h hdp hm hL hn
theorem aod {n:Nat} (hn:n≤25) {P:LS→Res Tree} {w:World} {pb:Nat} {s:St} (h:At w pb s) (hd:Dp n s) (hno:∀S,s=.inr S→¬n<25):Calls prog 70 #[.pointer (some ⟨pb,0,none⟩),.int .i64 ((n:Int)+1)] w fun e w'=>RN (run (abi P) s) pb w e w':=by
 obtain⟨h1,h2,h3⟩:=akb (P:=P) hd hno hn
 have H1:=zb h1
 have H2:=zb h2
 have H3:=zb h3
 have H:=zb h
 clear h1 h2 h3 h hd hno
 go_enter func70,ntmps70
 go_wp2_with fail
 refine(ad1 (za H) (n+1)).mono ?_
 rintro e w1 ⟨rfl,hx,ha⟩
 rw[za H1]
 have HX:=zb hx
 have HA:=zb ha
 clear hx ha
 go_wp2_with fail
 go_ret
 exact⟨_,rfl,(za HX).alloc _,by rw[za H2];exact(za HA).add ((Add.refl _).alloc _),fun a S e=>absurd e (za H3 a S)⟩
theorem ba2 {n:Nat} (hn:n<25) {P:LS→Res Tree} (hP:∀w pb s,At w pb s→Dp (n+1) s→Calls prog 107 #[.pointer (some ⟨pb,0,none⟩),.int .i64 ((n:Int)+1),.int .i64 0] w fun e w'=>RN (run P s) pb w e w')
  {w:World} {pb:Nat} {S:LS} (h:At w pb (.inr S)) (hd:S.dp=n+1):Calls prog 70 #[.pointer (some ⟨pb,0,none⟩),.int .i64 ((n:Int)+1)] w fun e w'=>RN (run P (.inr S)) pb w e w':=by
 have H:=zb h
 have HP:=zb hP
 clear h hP
 go_enter func70,ntmps70
 go_wp2_with fail
 refine(ad1 (za H) (n+1)).mono ?_
 rintro e w1 ⟨rfl,hx,ha⟩
 have e1:acj (n+1) (.inr S)=.inr S:=by rw[acj,if_neg (by omega)]
 rw[e1] at ha ⊢
 have HX:=zb hx
 have HA:=zb ha
 clear hx ha
 dsimp only [okB]
 go_wp2_with fail
 refine(za HP _ pb _ (za HA) (fun T e=>by cases e;exact hd)).mono ?_
 rintro e w2 ⟨b,rfl,hx,h2,hv⟩
 have HX2:=zb hx
 have H2:=zb h2
 have HV:=zb hv
 have hs:=(za HX).size
 clear hx h2 hv
 go_wp2_with fail
 go_ret
 exact⟨b,rfl,(za HX).trans (za HX2),za H2,fun a T e=>NodeAt.mono (za HV a T e) fun j hj=>by have:w1.heap.size≤j:=hj;omega⟩
theorem ax5 {n:Nat} (hn:n≤25) {L:Low} (hL:n<25→RLow (n+1) L) (w:World) (pb:Nat) (s:St) (h:At w pb s) (hd:Dp n s):Calls prog 70 #[.pointer (some ⟨pb,0,none⟩),.int .i64 ((n:Int)+1)] w fun e w'=>RN (run (abi (jo (aae L) 6)) s) pb w e w':=by
 by_cases h25:n<25
 ·cases s with
  | inl f=>exact aod hn h hd fun S e=>by cases e
  | inr S =>
   have hl:=hL h25
   refine(ba2 h25 (P:=jo (aae L) 6) (fun w pb s h hd=>?_) (h.deep (n+1)) rfl).mono fun e w' q=>q.deep (hd S rfl) h25
   exact aqb (m:=n+1) (by omega) (adz hl.good) (fun w pb s h hd=>al4 (by omega) hl h hd) 6 0 rfl w pb s h hd
 ·exact aod hn h hd fun S e=>h25
theorem aty:∀(d n:Nat),n≤25→26≤n+d→RLow n (abr d)
 | 0,n,hn,h=>by omega
 | d+1,n,hn,h=>by
  have ih:n<25→RLow (n+1) (abr d):=fun h25=>aty d (n+1) (by omega) (by omega)
  refine⟨afc (d+1),fun w pb s h hd=>ax5 hn ih w pb s h hd,fun w pb s h hd=>ao9 hn ih w pb s h hd,⟨aae (abr d),adz (afc d),rfl,fun w pb s h hd h25=>?_⟩⟩
  exact al4 (m:=n+1) (by omega) (ih h25) h hd
def hdP (S:LS):Res (ByteArray×ByteArray):=bnd (zi S) fun _ S1=>bnd (z6 S1) fun s S2=>bnd (ac8 S2) fun u S3=>bnd (zj ad3 S3) fun _ S4=>.inr ((s,u),S4)
def aq7 (L:Low) (tx un:ByteArray) (ln:Nat) (t:Res (List Tree)):Res Tree:=bnd t fun fs S5=>bnd (abz aa2 (aa9 L) 3002 fs S5) fun ks S6=>.inr (⟨2,tx,un,0,ln,ks⟩,S6)
theorem bdq (L:Low) (S:LS):ace L S=bnd (hdP S) fun su S4=>aq7 L su.1 su.2 S.tl (adf 10 [] S4):=by
 unfold ace hdP aq7
 cases zi S with
 | inl f=>rfl
 | inr y1 =>
  show (bnd (z6 y1.2) _)=bnd (bnd (z6 y1.2) _) _
  cases z6 y1.2 with
  | inl f=>rfl
  | inr y2 =>
   show (bnd (ac8 y2.2) _)=bnd (bnd (ac8 y2.2) _) _
   cases ac8 y2.2 with
   | inl f=>rfl
   | inr y3 =>
    show (bnd (zj ad3 y3.2) _)=bnd (bnd (zj ad3 y3.2) _) _
    cases zj ad3 y3.2 <;> rfl
theorem hd_st (S:LS):zg (hdP S)=zg (run (zj ad3) (zg (run ac8 (zg (run z6 (zg (zi S))))))):=by
 unfold hdP
 rw[aaz (R:=fun S1=>bnd (z6 S1) fun s S2=>bnd (ac8 S2) fun u S3=>bnd (zj ad3 S3) fun _ S4=>.inr ((s,u),S4)) fun _ _=>rfl,ae0,
  aaz (R:=fun S2=>bnd (ac8 S2) fun u S3=>bnd (zj ad3 S3) fun _ S4=>(.inr ((zc,u),S4):Res (ByteArray×ByteArray))) (fun a S2=>by
   rw[aaz (R:=zj ad3) fun _ _=>abw,aaz (R:=zj ad3) fun _ _=>abw]),ae0,
  aaz (R:=zj ad3) fun _ _=>abw]
theorem hd_val {S:LS} {su:ByteArray×ByteArray} {T:LS} (h:hdP S=.inr (su,T)):∃T1 T2,run z6 (zg (zi S))=.inr (su.1,T1)∧run ac8 (.inr T1)=.inr (su.2,T2):=by
 obtain⟨_,S1,h1,h⟩:=ze h
 obtain⟨s,S2,h2,h⟩:=ze h
 obtain⟨u,S3,h3,h⟩:=ze h
 obtain⟨_,S4,h4,h⟩:=ze h
 cases h
 exact⟨S2,S3,by rw[h1];exact h2,h3⟩
theorem hd_on {S T:LS} {su:ByteArray×ByteArray} (ok:Ok S) (hk:S.kd≠0) (h:hdP S=.inr (su,T)):On S T:=by
 obtain⟨_,S1,h1,h⟩:=ze h
 obtain⟨s,S2,h2,h⟩:=ze h
 obtain⟨u,S3,h3,h⟩:=ze h
 obtain⟨_,S4,h4,h⟩:=ze h
 cases h
 have o1:=aan ok hk h1
 have o2:=acn o1.ok h2
 have o3:=app o2.ok h3
 exact((o1.trans o2).trans0 o3).trans (aau o3.ok h4)
theorem ba3 {S:LS} (h:S.is ah5=true):ac8 S=bnd (zi S) fun _ S1=>z6 S1:=by
 rw[ac8,aab,if_pos h]
 cases zi S <;> rfl
theorem bdr {S:LS} (h:S.is ah5=false):ac8 S=.inr (zc,S):=by
 rw[ac8,aab,if_neg (by rw[h];decide)]
 rfl
theorem ba4 {s:St} (h:zq s ah5=false):zg (run ac8 s)=s∧∀u T,run ac8 s=.inr (u,T)→zc=u:=by
 cases s with
 | inl f=>exact⟨rfl,fun u T e=>by cases e⟩
 | inr S =>
  have e:run ac8 (.inr S)=.inr (zc,S):=bdr h
  rw[e]
  exact⟨rfl,fun u T e=>by cases e;rfl⟩
theorem aqc {S:LS} {m:ByteArray} (h:S.is m=true):zj m S=zi S:=by rw[zj,if_pos h]
theorem ax6 (s:St):zg (run (aco 8) s)=anu 4 s:=by cases s <;> rfl
theorem ba5 {n:Nat} (h:n≠8) (s:St):zg (run (aco n) s)=s:=by
 cases s with
 | inl f=>rfl
 | inr S =>
  show zg (aco n S)=_
  rw[aco,if_neg h]
  rfl
theorem bds (n:Nat) (S:LS):zg (ady n S)=zg (run (zj acg) (zg (run z6 (zg (run (aco n) (zg (zi S))))))):=by
 unfold ady
 rw[aaz (R:=fun S1=>bnd (aco n S1) fun _ S2=>bnd (z6 S2) fun s S3=>bnd (zj acg S3) fun _ S4=>.inr (ndT 3 s S.tl [],S4)) fun _ _=>rfl,ae0,
  aaz (R:=fun S2=>bnd (z6 S2) fun s S3=>bnd (zj acg S3) fun _ S4=>.inr (ndT 3 s S.tl [],S4)) fun _ _=>rfl,ae0,aaz (R:=zj acg) fun _ _=>abw]
theorem ba6 {n:Nat} {S T:LS} {t:Tree} (h:ady n S=.inr (t,T)):∃s T',t=ndT 3 s S.tl []∧run z6 (zg (run (aco n) (zg (zi S))))=.inr (s,T'):=by
 obtain⟨_,S1,h1,h⟩:=ze h
 obtain⟨_,S2,h2,h⟩:=ze h
 obtain⟨s,S3,h3,h⟩:=ze h
 obtain⟨_,S4,h4,h⟩:=ze h
 cases h
 refine⟨s,S3,rfl,?_⟩
 rw[h1]
 show run z6 (zg (aco n S1))=_
 rw[h2]
 exact h3
theorem ba7 (L:Low) (S:LS):zg (aa9 L S)=zg (run (adn L) (zg (z6 S))):=by
 unfold aa9
 rw[aaz (R:=adn L) fun _ _=>abw]
theorem ax7 {L:Low} {S T:LS} {t:Tree} (h:aa9 L S=.inr (t,T)):∃s T1 pb,z6 S=.inr (s,T1)∧adn L T1=.inr (pb,T)∧t=ndT 4 s S.tl [pb.1,pb.2]:=by
 obtain⟨s,S1,h1,h⟩:=ze h
 obtain⟨pb,S2,h2,h⟩:=ze h
 cases h
 exact⟨s,S1,pb,h1,h2,rfl⟩
def CL1 (L:Low) (ln:Nat) (q:Res Tree) (pb:Nat) (w:World) (nb:Nat) (gg many:Nat) (wr:World):Prop :=
 Ext pb w wr∧((∃f,q=.inl f∧At wr pb (.inl f))∨∃(S':LS) (acc:List Tree) (ks:Value) (vs:List Value) (tx un:ByteArray),At wr pb (.inr S')∧S'.dp=0∧Und (fun j=>w.heap.size≤j) wr nb 2 tx un 0 ln acc ks vs∧acc.length=many∧many≤8∧gg+many=10∧aq7 L tx un ln (adf gg acc S')=q)
def CL2 (L:Low) (ln:Nat) (q:Res Tree) (pb:Nat) (w:World) (nb:Nat) (gg:Nat) (wr:World):Prop :=
 Ext pb w wr∧((∃f,q=.inl f∧At wr pb (.inl f))∨∃(S':LS) (acc:List Tree) (ks:Value) (vs:List Value) (tx un:ByteArray),At wr pb (.inr S')∧S'.dp=0∧Und (fun j=>w.heap.size≤j) wr nb 2 tx un 0 ln acc ks vs∧acc.length≤S'.tp+9∧3002≤gg+S'.tp∧(bnd (abz aa2 (aa9 L) gg acc S') fun ks S6=>.inr (⟨2,tx,un,0,ln,ks⟩,S6))=q)
theorem CL2.add {L:Low} {ln:Nat} {q:Res Tree} {pb nb gg:Nat} {w wr w':World} (h:CL2 L ln q pb w nb gg wr) (hpl:pb<w.heap.size) (ha:Add wr w'):CL2 L ln q pb w nb gg w':=by
 obtain⟨hx,⟨f,hq,hA⟩ | ⟨S',acc,ks,vs,tx,un,hA,hd,hu,h1,h2,h3⟩⟩:=h
 ·exact⟨hx.trans (ha.ext pb),Or.inl ⟨f,hq,hA.add ha⟩⟩
 ·exact⟨hx.trans (ha.ext pb),Or.inr ⟨S',acc,ks,vs,tx,un,hA.add ha,hd,hu.ext (ha.ext pb) fun j hj=>by omega,h1,h2,h3⟩⟩
theorem CL1.parts {L:Low} {ln:Nat} {q:Res Tree} {pb nb gg many:Nat} {w wr:World} (h:CL1 L ln q pb w nb gg many wr) :
  (∃st,At wr pb st∧zq st ae6=false∧CL2 L ln q pb w nb 3002 wr) ∨
  ∃(S':LS) (acc:List Tree) (ks:Value) (vs:List Value) (tx un:ByteArray) (f:Nat),S'.is ae6=true∧Ext pb w wr∧At wr pb (.inr S')∧S'.dp=0∧Und (fun j=>w.heap.size≤j) wr nb 2 tx un 0 ln acc ks vs∧acc.length=many∧many≤8∧gg=f+1∧f+(many+1)=10∧aq7 L tx un ln (bnd (ady acc.length S') fun t S1=>adf f (acc++[t]) S1)=q:=by
 obtain⟨hx,⟨f,hq,hA⟩ | ⟨S',acc,ks,vs,tx,un,hA,hd,hu,h1,h2,h3,h4⟩⟩:=h
 ·exact Or.inl ⟨_,hA,rfl,hx,Or.inl ⟨f,hq,hA⟩⟩
 ·obtain⟨f,rfl⟩:∃f,gg=f+1:=⟨gg-1,by omega⟩
  cases hi:S'.is ae6
  ·refine Or.inl ⟨_,hA,hi,hx,Or.inr ⟨S',acc,ks,vs,tx,un,hA,hd,hu,by omega,by omega,?_⟩⟩
   rw[adf,if_neg (by rw[hi];decide)] at h4
   exact h4
  ·refine Or.inr ⟨S',acc,ks,vs,tx,un,f,hi,hx,hA,hd,hu,h1,h2,rfl,by omega,?_⟩
   rw[adf,if_pos hi] at h4
   exact h4
end Go.Proofs.YtndgajlidckcdaaGreatDoor
