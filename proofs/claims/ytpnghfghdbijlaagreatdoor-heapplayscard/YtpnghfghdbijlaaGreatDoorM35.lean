/- A part. -/
import Derived.Test.YtpnghfghdbijlaaGreatDoorM34
open Go.Proofs.Tryz
namespace Go.Proofs.YtpnghfghdbijlaaGreatDoor
open Go.RowKit
set_option linter.unusedVariables false
set_option linter.unusedSimpArgs false
set_option maxRecDepth 100000
set_option maxHeartbeats 40000000
section
open Go.RowKit Go.Maps
def StepsAt (w:World) (g:Option Addr) (L:List St5):Prop:=∀(i:Nat) (q:St5),L[i]?=some q→∃b o,g=some ⟨b,o,none⟩∧w.cell? ⟨b,o+i*5,none⟩=some (.int .i64 q.what)∧w.cell? ⟨b,o+i*5+1,none⟩=some (.int .i64 q.a)∧w.cell? ⟨b,o+i*5+2,none⟩=some (.int .i64 q.b)∧w.cell? ⟨b,o+i*5+3,none⟩=some (.int .i64 q.c)∧w.cell? ⟨b,o+i*5+4,none⟩=some (.int .u64 q.bits)
theorem StepsAt.keep {w w':World} {g:Option Addr} {L:List St5} (h:StepsAt w g L) (hb:Below w.heap.size w w'):StepsAt w' g L:=fun i q hq=>by
 obtain⟨b,o,e,c0,c1,c2,c3,c4⟩:=h i q hq
 exact⟨b,o,e,zj hb c0 (ze c0),zj hb c1 (ze c1),zj hb c2 (ze c2),zj hb c3 (ze c3),zj hb c4 (ze c4)⟩
theorem eqlNilP (w:World):(binOp BinOp.eql 23 (.pointer none) (.pointer none)).run prog w=.ok (.bool true) w:=by kernel_rfl
theorem ant {w:World} {n o:Int} {g:Option Addr} {l c:Nat} {cp:Bool} (hl:60<(l:Int)) :
  Calls prog 3 #[.int .i64 n,.int .i64 o,.slice g l c,.bool cp] w fun e w'=>e=.returned (.bool true)∧Below w.heap.size w w':=by
 go_enter func3,ntmps3
 go_wp2_with fail
 go_ret
 exact⟨rfl,Below.refl _ _⟩
theorem ao7 {w:World} {n o:Int} {g:Option Addr} {l c:Nat} {cp:Bool} (hl:l≤60) (hT:ErrT w) (hr:abt n o=true) :
  Calls prog 3 #[.int .i64 n,.int .i64 o,.slice g l c,.bool cp] w fun e w'=>e=.returned (.bool true)∧Below w.heap.size w w':=by
 have hl2:decide ((60:Int)<(l:Int))=false:=by rw[decide_eq_false_iff_not];omega
 have HR:=zc hr
 have HT:=zc hT
 have h22:(((2:Int)==2)&&((-1:Int)==-1))=true:=by decide
 have hq:=aco
 have hp:=eqlNilP
 clear hl hr hT
 go_enter func3,ntmps3
 go_wp2_with fail
 refine(ah5 n o w).mono ?_
 rintro e w1 ⟨hb,hc⟩
 have HB:=zc hb
 clear hb
 rcases hc with ⟨_,rfl⟩ | ⟨h,_⟩
 ·go_upto_region 4 with fail
  go_cut [35] (fun p wx=>p=.bool true∧wx=w1)
  case first =>
   by_cases h1:n<1
   ·go_wp2_with fail
    go_meet
    exact⟨rfl,rfl⟩
   have g1:decide (n<1)=false:=by simpa using h1
   by_cases h2:65536<n
   ·clear h1
    go_wp2_with fail
    go_meet
    exact⟨rfl,rfl⟩
   have g2:decide (65536<n)=false:=by simpa using h2
   by_cases h3:o<1
   ·clear h1 h2
    go_wp2_with fail
    go_meet
    exact⟨rfl,rfl⟩
   have g3:decide (o<1)=false:=by simpa using h3
   have h4:1048576<o:=by
    have:=za HR
    unfold abt at this
    rw[g1,g2,g3] at this
    simpa using this
   clear h1 h2 h3
   go_wp2_with fail
   go_meet
   exact⟨rfl,rfl⟩
  rename World=>w2
  obtain⟨rfl,hw⟩:=hcut
  subst hw
  go_wp2_with fail
  refine(ab4 (v:=.iface 29 (.int .i64 2)) (n:=2) (p:=-1) (Or.inr (Or.inl ⟨rfl,rfl⟩)) ((za HT).keep (za HB)) 2).mono ?_
  rintro e w3 ⟨rfl,hb3⟩
  rw[h22]
  have HB3:=zc ((za HB).trans (hb3.mono (za HB).size))
  clear hb3
  go_wp2_with fail
  go_ret
  exact⟨rfl,za HB3⟩
 ·rw[za HR] at h
  cases h
theorem hp_of {B k k':Nat} {w w':World} {zb:Nat} {m m':ZM} {s s':ZS} (h:ZAt B k w zb m s) (h':ZAt B k' w' zb m' s') (e:w'.cell? ⟨zb,0,none⟩=w.cell? ⟨zb,0,none⟩):m'.hp=m.hp:=by
 have h1:w.cell? ⟨zb,0,none⟩=some (.pointer (some ⟨m.hp,0,none⟩)):=zd h.zr.blk 0
 have h2:w'.cell? ⟨zb,0,none⟩=some (.pointer (some ⟨m'.hp,0,none⟩)):=zd h'.zr.blk 0
 rw[h1,h2] at e
 injection e with e
 injection e with e
 injection e with e
 injection e with e
theorem aqy {w:World} {n o:Int} {g:Option Addr} {L:List St5} {c:Nat} {cp:Bool} (hl:L.length≤60) (hs:StepsAt w g L) (hT:ErrT w) (hci:∀q∈L,I64 q.c) (hr:abt n o=false) :
  Calls prog 3 #[.int .i64 n,.int .i64 o,.slice g L.length c,.bool cp] w fun e w'=>e=.returned (.bool true)∧Below w.heap.size w w':=by
 have hl2:decide ((60:Int)<(L.length:Int))=false:=by rw[decide_eq_false_iff_not];omega
 have hr':¬n<1∧¬65536<n∧¬o<1∧¬1048576<o:=by
  have:=hr
  unfold abt at this
  simp only[Bool.or_eq_false_iff,decide_eq_false_iff_not] at this
  omega
 have g1:decide (n<1)=false:=by simpa using hr'.1
 have g2:decide (65536<n)=false:=by simpa using hr'.2.1
 have g3:decide (o<1)=false:=by simpa using hr'.2.2.1
 have g4:decide (1048576<o)=false:=by simpa using hr'.2.2.2
 have HS:=zc hs
 have HT:=zc hT
 have HCI:=zc hci
 have HR:=zc hr
 have hq:=aco
 clear hs hT hr hr' hci
 go_enter func3,ntmps3
 go_wp2_with fail
 refine(ah5 n o w).mono ?_
 rintro e w1 ⟨hb,hcc⟩
 rcases hcc with ⟨h,_⟩ | ⟨_,h,mb,rfl,hlh,hlm,_,hm,hh⟩
 ·rw[za HR] at h
  cases h
 have HZ0:=zc (ZAt.start hb hlh hlm hm hh (za HR))
 have HB1:=zc hb
 clear hb hlh hlm hm hh
 go_wp2_with fail
 go_loopg [12] L.length (fun gg i wx=>∃(j:Nat),j≤L.length∧gg=L.length-j∧i=.int .i64 j∧Hid (∃m s,ZAt w.heap.size j wx w1.heap.size m s∧Below w.heap.size w wx∧(j≤L.length / 2→m.hp=h)))
 case atStart=>exact⟨0,Nat.zero_le _,by omega,rfl,m0 h mb,s0 n o,za HZ0,(za HB1).alloc (za HB1).size _,fun _=>rfl⟩
 case round =>
  obtain⟨j,hj,rfl,rfl,HI⟩:=hrel
  obtain⟨m,s,hz,hb,hhp⟩:=za HI
  have HZ:=zc hz
  have HB:=zc hb
  have HHP:=zc hhp
  clear HI hz hb hhp HZ0
  by_cases hlt:j<L.length
  ·have hlt2:(j:Int)<(L.length:Int):=by omega
   obtain⟨q,hq1⟩:∃q,L[j]?=some q:=⟨_,List.getElem?_eq_getElem hlt⟩
   obtain⟨bl,ol,e,_⟩:=za HS j q hq1
   subst e
   have HQ:=zc hq1
   clear hq1
   go_upto_region 12 with fail
   go_cut [66] (fun p wx=>∃bb,p=.bool bb∧Hid (bb=true→j=L.length / 2)∧wx=wr)
   case first =>
    cases cp with
    | false =>
     go_wp2_with fail
     go_meet
     exact⟨false,rfl,fun e=>(by cases e),rfl⟩
    | true =>
     go_wp2_with fail
     go_meet
     refine⟨_,rfl,fun e=>?_,rfl⟩
     have e:=of_decide_eq_true e
     have e2:=@Int.tdiv_eq_ediv_of_nonneg (L.length:Int) 2 (by omega)
     omega
   rename World=>wx
   obtain⟨bb,rfl,HBB,hx⟩:=hcut
   subst hx
   go_upto_if 66 with fail
   go_cut [] (fun wy=>Hid (∃m s,ZAt w.heap.size j wy w1.heap.size m s∧Below w.heap.size w wy∧(j+1≤L.length / 2→m.hp=h)))
   case first =>
    cases bb with
    | false =>
     go_wp2_with fail
     go_meet
     exact⟨m,s,za HZ,za HB,fun e=>za HHP (by omega)⟩
    | true =>
     have ej:=za HBB rfl
     have eh:=za HHP (by omega)
     subst eh
     have z0:wx.cell? ⟨w1.heap.size,0,none⟩=some (.pointer (some ⟨m.hp,0,none⟩)):=zd (za HZ).zr.blk 0
     have zf:wx.frozen? ⟨w1.heap.size,0,none⟩=false:=zt (za HZ).zr.blk 0
     have HEJ:=zc ej
     clear ej
     go_wp2_with fail
     refine(aqs (za HZ).hg (by have:=(za HZ).fw.nt;omega)).mono ?_
     rintro e w2 ⟨hq2,mq,vyo,vyf,voo,vof,vn,rfl,a1,a2,a3,a4⟩
     have hzl:w1.heap.size<wx.heap.size:=ze z0
     have x0:w2.cell? ⟨w1.heap.size,0,none⟩=some (.pointer (some ⟨m.hp,0,none⟩)):=zj a4 z0 (ze z0)
     have xf:w2.frozen? ⟨w1.heap.size,0,none⟩=false:=zt ((a4.block _ hzl).trans (za HZ).zr.blk) 0
     have HG:Hid (HpG w.heap.size (w2.setCell ⟨w1.heap.size,0,none⟩ (.pointer (some ⟨hq2,0,none⟩))) m.hp m.mb s.P s.D m.n m.vyo m.vyf m.voo m.vof m.vn):=((za HZ).hg.keep a4).far (fun k hk hn=>zo _ (fun e=>hn (e ▸ (za HZ).zr.out (za HZ).hg (Or.inl rfl)))) (by simp[World.setCell])
     have HA:=zc a3
     have HA4:=zc a4
     have HA1:=zc a1
     have HA2:=zc a2
     clear a1 a2 a3 a4 z0 zf
     go_wp2_with fail
     refine(al1 (za HG) (za HZ).fw (by rw[(za HZ).zi.last];omega) (by have h1:=(za HZ).zi.last;have h2:idC s.T≤s.T.length:=(by unfold idC;exact List.length_filter_le _ _);have h3:=(za HZ).fw.t;omega)).mono ?_
     rintro e w3 ⟨⟨ra,rb,rfl⟩,ho⟩
     have x3:w3.cell? ⟨w1.heap.size,0,none⟩=some (.pointer (some ⟨hq2,0,none⟩)):=by
      have hb0:=ho.bk w1.heap.size (by simp[World.setCell];exact Nat.lt_of_lt_of_le hzl (za HA4).size) ((za HZ).zr.out (za HZ).hg (Or.inl rfl))
      have hb1:=aad (((za HA4).block _ hzl).trans (za HZ).zr.blk) 0 (.pointer (some ⟨hq2,0,none⟩))
      exact zd (hb0.trans hb1) 0
     have HC:=zc ((za HZ).copied (za HA1) (za HA2) (za HA) (za HA4) ho)
     clear ho
     go_wp2_with fail
     go_meet
     obtain⟨⟨m',hz'⟩,hb'⟩:=za HC
     exact⟨m',s,hz',(za HB).trans hb',fun e=>absurd e (by have:=za HEJ;omega)⟩
   rename World=>wy
   obtain⟨m2,s2,hz2,hb2,hhp2⟩:=za hcut
   obtain⟨b3,o3,e3,c0,c1,c2,c3,c4⟩:=(za HS).keep hb2 j q (za HQ)
   cases e3
   have HZ2:=zc hz2
   have HB2:=zc hb2
   have HHP2:=zc hhp2
   have hjk:j<60:=by omega
   clear hcut hz2 hb2 hhp2
   go_wp2_with fail
   refine(aqq (za HZ2) hjk ((za HT).keep (za HB2)) (wt:=q.what) (a:=q.a) (b:=q.b) (c:=q.c) (bits:=q.bits) (za HCI q (List.mem_of_getElem? (za HQ)))).mono ?_
   rintro e w3 ⟨rfl,m3,s3,hz3,hb3,hc3⟩
   have HP3:=zc (hp_of (za HZ2) hz3 hc3)
   have HZ3:=zc hz3
   have HB3:=zc ((za HB2).trans hb3)
   clear hz3 hb3 hc3
   go_wp2_with fail
   refine(ao6 (za HZ3) ((za HT).keep (za HB3))).mono ?_
   rintro e w4 ⟨rfl,hb4⟩
   have HZ4:=zc ((za HZ3).keep hb4)
   have HB4:=zc ((za HB3).trans (hb4.mono (za HZ3).hg.hB))
   clear hb4
   go_wp2_with fail
   go_roundg (L.length-(j+1))
   case measure=>omega
   case rel=>exact⟨j+1,by omega,rfl,by go_num,m3,s3,za HZ4,za HB4,fun e=>(za HP3).trans (za HHP2 e)⟩
  ·obtain rfl:j=L.length:=by omega
   have hlt2:decide ((L.length:Int)<(L.length:Int))=false:=by simp
   clear hlt
   go_wp2_with fail
   go_ret
   exact⟨rfl,za HB⟩
theorem ao8 {w:World} {n o:Int} {g:Option Addr} {L:List St5} {c:Nat} {cp:Bool} (hs:StepsAt w g L) (hT:ErrT w) (hci:∀q∈L,I64 q.c) :
  Calls prog 3 #[.int .i64 n,.int .i64 o,.slice g L.length c,.bool cp] w fun e w'=>e=.returned (.bool true)∧Below w.heap.size w w':=by
 by_cases hl:L.length≤60
 ·cases hr:abt n o with
  | true=>exact ao7 hl hT hr
  | false=>exact aqy hl hs hT hci hr
 ·exact ant (by omega)
end
end Go.Proofs.YtpnghfghdbijlaaGreatDoor
