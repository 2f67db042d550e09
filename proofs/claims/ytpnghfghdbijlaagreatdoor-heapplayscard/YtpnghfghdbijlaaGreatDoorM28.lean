/- A part. -/
import Derived.Test.YtpnghfghdbijlaaGreatDoorM27
open Go.Proofs.Tryz
namespace Go.Proofs.YtpnghfghdbijlaaGreatDoor
open Go.RowKit
set_option linter.unusedVariables false
set_option linter.unusedSimpArgs false
set_option maxRecDepth 100000
set_option maxHeartbeats 40000000
section
open Go.RowKit Go.Maps
theorem aqp {B k:Nat} {w:World} {zb:Nat} {m:ZM} {s:ZS} (h:ZAt B k w zb m s) (hk:k<60) {wt a b bits:Int} {sz:Nat} (ha:1≤a∧a≤4) (hsz:sz≤1000) (hroom:(s.P.Y.length+(zg s.P.Y).length:Int)+1+sz≤s.P.ry) :
  Calls prog 17 #[.pointer (some ⟨zb,0,none⟩),.agg #[.int .i64 wt,.int .i64 a,.int .i64 b,.int .i64 (sz:Int),.int .u64 bits]] w fun e w'=>e=.returned (.bool true)∧ZNext B (k+1) zb w w':=by
 refine(makesP B k w zb m s wt a b bits sz).2 h hk ha hsz hroom ?_
 intro tp m2 P2 D2 id tb vi wg htp hcut hM hN2
 obtain⟨hZ,hK⟩:=hcut
 obtain⟨wc,hM⟩:=hM
 have hTl:s.T.length≤60:=by have:=h.fw.t;have:=h.fw.k60;omega
 have hWl:s.wh.length≤60:=by have:=h.zi.lw;omega
 have hHl:s.here.length≤60:=by have:=h.zi.rep.len;omega
 have hKl:s.known.length≤60:=by have:=h.zi.lk;omega
 have HM:=zc hM
 have HN2:=zc hN2
 have HTP:=zc htp
 have HZA:=zc h
 have HA:=zc ha
 have hq:=aco
 clear h ha hroom htp hM hN2
 delta makesP
 intro u8 u9 u10 u11 u12 u13 u14 u15 u16 u17 u18 u19 u20 u21 u22 u24 u25 u26 u27 u28 u29 u30 u31 u32 u33 u34 u35 u36 u37 u38 u39 u40 u41 u42 u43 u44 u45 u46 u47 u49 u50 u51 u52 u53 u54 u55 u56 u57 u58 u59 u60 u61 u62 u63 u64 u65 u66 u67 u69 u70 u71 u72 u73 u74 u75 u76 u77 u78 u79 u80 u81 u82 u83 u84 u85 u86 u87 u88 u89 u90 u91 u92 u93 u94 u95 u96 u97 u98 u99 u100 u101 u102 u103 u104 u105 u106 u107 u108 u109 u110 u111 u112 u113 u114 u115 u116 u117 u118 u119 u120 u121 u122 u123 u124 u125 u126 u127 u128 u129 u130 u131 u132 u133 u134 u135 u136 u137 u138 u139 u140 u141 u142 u143 u144 u145 u146 u147 u148 u149 u150 u151 u152 u153 u154 u155 u156 u157 u158 u159 u160 u161
 have HZ:=zc hZ.drew
 have HK:=zc (hK.keep (Below.refl _ _).drew)
 have e1:wg.drew.cell? ⟨zb,1,none⟩=some m2.vt:=zd hZ.drew.zr.blk 1
 have e2:wg.drew.cell? ⟨zb,2,none⟩=some m2.vw:=zd hZ.drew.zr.blk 2
 obtain⟨i0,hi0,hza0,hza1,hza2⟩:=info_parts infoPT
 obtain⟨i1,hi1,hzb0,hzb1,hzb2⟩:=info_parts agd
 have hz1:m2.vt.ownBlock≠some zb:=hZ.zr.zbt hZ.zr.th (by decide)
 have hz2:m2.vw.ownBlock≠some zb:=hZ.zr.zbt hZ.zr.wr (by decide)
 have HP0:=zc (Pr.start hZ.drew.zr.th hZ.drew.zr.wr (fun g h1 h2=>by
  obtain⟨_,_,c1,q1⟩:=zp hZ.zr.th g h1
  obtain⟨_,_,c2,q2⟩:=zp hZ.zr.wr g h2
  rw[q1] at q2
  injection q2 with q2
  injection q2 with _ q2 _
  exact absurd q2 (by decide)))
 have HLA:Hid (∀j,m2.vt.ownBlock=some j→j<wg.heap.size):=fun j hj=>(zp hZ.zr.th j hj).2.1
 have HZB:=zc hZ.drew.zr.blk
 have HBB:=zc hZ.drew.hg.hB
 clear hZ hK
 go_wp2_with fail
 go_cut [] (fun wh'=>Hid (∃vt' vw',Zh B w wh' zb { m2 with vt:=vt',vw:=vw',bs:=m2.bs++[tb],vis:=m2.vis++[vi] } P2 D2 { aau s.P with top:=(tp:Int)+(1+(sz:Int)) } (s.T++[⟨a,b,id,false,List.replicate sz 0⟩]) (s.wh++[toA (s.P.fy+2*s.P.Y.length)]) s.here s.known))
 case first =>
  refine ace (S:=fun w'=>w'.cell? ⟨zb,1,none⟩=some m2.vt∧w'.cell? ⟨zb,2,none⟩=some m2.vw) 19 (by kernel_rfl) ⟨e1,e2⟩ (fun hHeld=>?_)
  refine zn (i:=0) (oi:={ dst:=some 123,op:=_,type:=_,pos:=_,after:=_,guard:=_ }) (v:=?_) rfl (by kernel_rfl) (by kernel_rfl) (by kernel_rfl) (by rfl) (fun _ _ _ h=>h) (Or.inl ⟨by rfl,?_⟩) (by assumption) ?_
  case refine_2 =>
   intro w hSw
   try dsimp only at hSw
   go_simp
   try with_reducible rfl
  simp only[Act.put,sA,sB,sC]
  refine zn (i:=1) (oi:={ dst:=some 124,op:=_,type:=_,pos:=_,after:=_,guard:=_ }) (v:=?_) rfl (by kernel_rfl) (by kernel_rfl) (by kernel_rfl) (by rfl) (fun _ _ _ h=>h) (Or.inl ⟨by rfl,?_⟩) (by assumption) ?_
  case refine_2 =>
   intro w hSw
   try dsimp only at hSw
   go_simp
   try with_reducible rfl
  simp only[Act.put,sA,sB,sC]
  refine zn (i:=2) (oi:={ dst:=some 125,op:=_,type:=_,pos:=_,after:=_,guard:=_ }) (v:=?_) rfl (by kernel_rfl) (by kernel_rfl) (by kernel_rfl) (by rfl) (fun _ _ _ h=>h) (Or.inl ⟨by rfl,?_⟩) (by assumption) ?_
  case refine_2 =>
   intro w hSw
   try dsimp only at hSw
   go_simp
   try with_reducible rfl
  simp only[Act.put,sA,sB,sC]
  refine zn (i:=3) (oi:={ dst:=some 126,op:=_,type:=_,pos:=_,after:=_,guard:=_ }) (v:=?_) rfl (by kernel_rfl) (by kernel_rfl) (by kernel_rfl) (by rfl) (fun _ _ _ h=>h) (Or.inl ⟨by rfl,?_⟩) (by assumption) ?_
  case refine_2 =>
   intro w hSw
   try dsimp only at hSw
   go_simp
   try with_reducible rfl
  simp only[Act.put,sA,sB,sC]
  refine zn (i:=4) (oi:={ dst:=some 127,op:=_,type:=_,pos:=_,after:=_,guard:=_ }) (v:=?_) rfl (by kernel_rfl) (by kernel_rfl) (by kernel_rfl) (by rfl) (fun _ _ _ h=>h) (Or.inl ⟨by rfl,?_⟩) (by assumption) ?_
  case refine_2 =>
   intro w hSw
   try dsimp only at hSw
   go_simp
   try with_reducible rfl
  simp only[Act.put,sA,sB,sC]
  refine aal (i:=5) (cs:=[8,19]) (oi:={ dst:=some 128,op:=_,type:=_,pos:=_,after:=_,guard:=_ }) (v:=?_) rfl (by kernel_rfl) (by kernel_rfl) (by kernel_rfl) (by rfl) (by kernel_rfl) (fun _ _ _ h=>h) (Or.inl ⟨by rfl,?_⟩) (by assumption) ?_
  case refine_2 =>
   intro w hSw
   try dsimp only at hSw
   go_simp
   try with_reducible rfl
  simp only[Act.put,sA,sB,sC]
  refine zn (i:=6) (oi:={ dst:=some 129,op:=_,type:=_,pos:=_,after:=_,guard:=_ }) (v:=?_) rfl (by kernel_rfl) (by kernel_rfl) (by kernel_rfl) (by rfl) (fun _ _ _ h=>h) (Or.inl ⟨by rfl,?_⟩) (by assumption) ?_
  case refine_2 =>
   intro w hSw
   try dsimp only at hSw
   go_simp
   try with_reducible rfl
  simp only[Act.put,sA,sB,sC]
  refine zn (i:=9) (oi:={ dst:=some 132,op:=_,type:=_,pos:=_,after:=_,guard:=_ }) (v:=?_) rfl (by kernel_rfl) (by kernel_rfl) (by kernel_rfl) (by rfl) (fun _ _ _ h=>h) (Or.inl ⟨by rfl,?_⟩) (by assumption) ?_
  case refine_2 =>
   intro w hSw
   try dsimp only at hSw
   go_simp
   try with_reducible rfl
  simp only[Act.put,sA,sB,sC]
  refine zn (i:=10) (oi:={ dst:=some 133,op:=_,type:=_,pos:=_,after:=_,guard:=_ }) (v:=?_) rfl (by kernel_rfl) (by kernel_rfl) (by kernel_rfl) (by rfl) (fun _ _ _ h=>h) (Or.inl ⟨by rfl,?_⟩) (by assumption) ?_
  case refine_2 =>
   intro w hSw
   try dsimp only at hSw
   go_simp
   try with_reducible rfl
  simp only[Act.put,sA,sB,sC]
  refine zn (i:=11) (oi:={ dst:=some 134,op:=_,type:=_,pos:=_,after:=_,guard:=_ }) (v:=?_) rfl (by kernel_rfl) (by kernel_rfl) (by kernel_rfl) (by rfl) (fun _ _ _ h=>h) (Or.inl ⟨by rfl,?_⟩) (by assumption) ?_
  case refine_2 =>
   intro w hSw
   try dsimp only at hSw
   go_simp
   try with_reducible rfl
  simp only[Act.put,sA,sB,sC]
  refine aal (i:=12) (cs:=[16,19]) (oi:={ dst:=some 135,op:=_,type:=_,pos:=_,after:=_,guard:=_ }) (v:=?_) rfl (by kernel_rfl) (by kernel_rfl) (by kernel_rfl) (by rfl) (by kernel_rfl) (fun _ _ _ h=>h) (Or.inl ⟨by rfl,?_⟩) (by assumption) ?_
  case refine_2 =>
   intro w hSw
   try dsimp only at hSw
   go_simp
   try with_reducible rfl
  simp only[Act.put,sA,sB,sC]
  refine zn (i:=13) (oi:={ dst:=some 136,op:=_,type:=_,pos:=_,after:=_,guard:=_ }) (v:=?_) rfl (by kernel_rfl) (by kernel_rfl) (by kernel_rfl) (by rfl) (fun _ _ _ h=>h) (Or.inl ⟨by rfl,?_⟩) (by assumption) ?_
  case refine_2 =>
   intro w hSw
   try dsimp only at hSw
   go_simp
   try with_reducible rfl
  simp only[Act.put,sA,sB,sC]
  refine zn (i:=14) (oi:={ dst:=some 137,op:=_,type:=_,pos:=_,after:=_,guard:=_ }) (v:=?_) rfl (by kernel_rfl) (by kernel_rfl) (by kernel_rfl) (by rfl) (fun _ _ _ h=>h) (Or.inl ⟨by rfl,?_⟩) (by assumption) ?_
  case refine_2 =>
   intro w hSw
   try dsimp only at hSw
   go_simp
   try with_reducible rfl
  simp only[Act.put,sA,sB,sC]
  refine af3 (i:=7) (j:=15) (o:={ dst:=some 130,op:=_,type:=_,pos:=_,after:=_,guard:=_ }) (p:={ dst:=some 138,op:=_,type:=_,pos:=_,after:=_,guard:=_ }) (by kernel_rfl) rfl rfl (fun K hK=>?_) (fun K hK=>?_)
  ·go_simp
   have HP1:=zc ((za HP0).alloc (.cells #[.pointer (some ⟨tb,0,none⟩)] 63))
   have HNA1:=zc (ab2 wg.drew (.cells #[.pointer (some ⟨tb,0,none⟩)] 63) (n:=wg.heap.size) (by rfl))
   refine hK.out _ _ ⟨(za HP1).cell e1 hz1 hz2,(za HP1).cell e2 hz1 hz2⟩ (fun hHeld=>?_)
   clear hK K
   refine af3 (i:=8) (j:=15) (o:={ dst:=some 131,op:=_,type:=_,pos:=_,after:=_,guard:=_ }) (p:={ dst:=some 138,op:=_,type:=_,pos:=_,after:=_,guard:=_ }) (by kernel_rfl) rfl rfl (fun K hK=>?_) (fun K hK=>?_)
   ·refine step_append_lies _ rfl _ _ _ rfl B 63 i0 (.pointer none) 1 8 underlying31 hi0 hza0 hza1 hza2 rfl (by decide) m2.vt s.T.length (m2.bs.map pv) rfl (za HP1).oa ⟨wg.heap.size,0,none⟩ 1 1 [.pointer (some ⟨tb,0,none⟩)] rfl rfl (World.news_of_block (za HNA1)) (fun u hu=>by simp at hu;subst hu;rfl) (by decide) (by unfold maxLen;omega) (by omega) (Nat.le_trans (za HBB) (za HP1).sz) _ rfl ?_
    intro g1 cap1 w1x hown hgrow hat hlt
    have HP2:=zc ((za HP1).first hown hgrow hat)
    clear hown hgrow hat hlt
    refine hK.out _ _ ⟨(za HP2).cell e1 hz1 hz2,(za HP2).cell e2 hz1 hz2⟩ (fun hHeld=>?_)
    clear hK K
    simp only[Act.put,sA,sB,sC]
    refine abq (i:=15) (o:={ dst:=some 138,op:=_,type:=_,pos:=_,after:=_,guard:=_ }) (by kernel_rfl) rfl (fun K hK=>?_)
    go_simp
    have HP3:=zc ((za HP2).alloc (.cells #[.int .i64 4,.int .i64 (s.P.fy+2*s.P.Y.length),.string ⟨#[]⟩] 69))
    have HNB3:=zc (ab2 w1x (.cells #[.int .i64 4,.int .i64 (s.P.fy+2*s.P.Y.length),.string ⟨#[]⟩] 69) (n:=w1x.heap.size) (by rfl))
    refine hK.out _ _ ⟨(za HP3).cell e1 hz1 hz2,(za HP3).cell e2 hz1 hz2⟩ (fun hHeld=>?_)
    clear hK K
    refine abq (i:=16) (o:={ dst:=some 139,op:=_,type:=_,pos:=_,after:=_,guard:=_ }) (by kernel_rfl) rfl (fun K hK=>?_)
    refine step_append_lies _ rfl _ _ _ rfl B 69 i1 (.agg #[.int .i64 0,.int .i64 0,.string ByteArray.empty]) 3 32 underlying32 hi1 hzb0 hzb1 hzb2 rfl (by decide) m2.vw s.wh.length (s.wh.flatMap aaw) rfl (za HP3).ob ⟨w1x.heap.size,0,none⟩ 1 1 [.int .i64 4,.int .i64 (s.P.fy+2*s.P.Y.length),.string ⟨#[]⟩] rfl rfl (World.news_of_block (za HNB3)) (fun u hu=>by simp at hu;rcases hu with rfl | rfl | rfl <;> rfl) (by decide) (by unfold maxLen;omega) (by omega) (Nat.le_trans (za HBB) (za HP3).sz) _ rfl ?_
    intro g3 cap3 w3x hown hgrow hat hlt
    have HP4:=zc ((za HP3).second hown hgrow hat)
    clear hown hgrow hat hlt
    refine hK.out _ _ ⟨(za HP4).cell e1 hz1 hz2,(za HP4).cell e2 hz1 hz2⟩ (fun hHeld=>?_)
    clear hK K
    simp only[Act.put,sA,sB,sC]
    refine zn (i:=17) (oi:={ dst:=some 140,op:=_,type:=_,pos:=_,after:=_,guard:=_ }) (v:=?_) rfl (by kernel_rfl) (by kernel_rfl) (by kernel_rfl) (by rfl) (fun _ _ _ h=>h) (Or.inl ⟨by rfl,?_⟩) (by assumption) ?_
    case refine_2 =>
     intro w hSw
     try dsimp only at hSw
     go_simp
     try with_reducible rfl
    simp only[Act.put,sA,sB,sC]
    refine zn (i:=18) (oi:={ dst:=some 141,op:=_,type:=_,pos:=_,after:=_,guard:=_ }) (v:=?_) rfl (by kernel_rfl) (by kernel_rfl) (by kernel_rfl) (by rfl) (fun _ _ _ h=>h) (Or.inl ⟨by rfl,?_⟩) (by assumption) ?_
    case refine_2 =>
     intro w hSw
     try dsimp only at hSw
     go_simp
     try with_reducible rfl
    simp only[Act.put,sA,sB,sC]
    have y0:=((za HP4).fr zb (hlt (za HZB)) hz1 hz2).trans (za HZB)
    have y1:w3x.cell? ⟨zb,1,none⟩=some m2.vt:=hHeld.1
    have y2:w3x.cell? ⟨zb,2,none⟩=some m2.vw:=hHeld.2
    have z1:=zt y0 1
    have z2:=zt y0 2
    have HY:=zc y0
    clear y0
    refine acp (o:={ dst:=none,op:=_,type:=_,pos:=_,after:=_,guard:=_ }) (by kernel_rfl) rfl (fun K hK=>?_)
    go_simp
    refine hK.out _ _ ?_
    clear hK K
    refine wpAny_take (i:=20) (oi:={ dst:=some 142,op:=_,type:=_,pos:=_,after:=_,guard:=_ }) (v:=?_) rfl (by kernel_rfl) (by kernel_rfl) (by kernel_rfl) (fun _ _ _ h=>h) (Or.inl ⟨by rfl,?_⟩) ?_
    case refine_2 =>
     intro w
     go_simp
     try with_reducible rfl
    simp only[Act.put,sA,sB,sC]
    refine wpAny_take (i:=21) (oi:={ dst:=some 143,op:=_,type:=_,pos:=_,after:=_,guard:=_ }) (v:=?_) rfl (by kernel_rfl) (by kernel_rfl) (by kernel_rfl) (fun _ _ _ h=>h) (Or.inl ⟨by rfl,?_⟩) ?_
    case refine_2 =>
     intro w
     go_simp
     try with_reducible rfl
    simp only[Act.put,sA,sB,sC]
    refine ad7 (i:=22) (o:={ dst:=none,op:=_,type:=_,pos:=_,after:=_,guard:=_ }) (by kernel_rfl) rfl (fun K hK=>?_)
    go_simp
    refine hK.out _ _ ?_
    clear hK K
    refine wpAny_done (by kernel_rfl) ?_ _
    go_wp2_with fail
    go_meet
    exact⟨_,_,(za HZ).things (v:=toA (s.P.fy+2*s.P.Y.length)) (za HK) (za HP4)⟩
   ·go_simp
    have HP2:=zc ((za HP1).alloc (.cells #[.int .i64 4,.int .i64 (s.P.fy+2*s.P.Y.length),.string ⟨#[]⟩] 69))
    have HNA2:=zc (ac5 (.cells #[.int .i64 4,.int .i64 (s.P.fy+2*s.P.Y.length),.string ⟨#[]⟩] 69) (za HNA1))
    have HNB2:=zc (ab2 (wg.drew.alloc (.cells #[.pointer (some ⟨tb,0,none⟩)] 63)) (.cells #[.int .i64 4,.int .i64 (s.P.fy+2*s.P.Y.length),.string ⟨#[]⟩] 69) (n:=wg.heap.size+1) (by simp))
    refine hK.out _ _ ⟨(za HP2).cell e1 hz1 hz2,(za HP2).cell e2 hz1 hz2⟩ (fun hHeld=>?_)
    clear hK K
    refine abq (i:=8) (o:={ dst:=some 131,op:=_,type:=_,pos:=_,after:=_,guard:=_ }) (by kernel_rfl) rfl (fun K hK=>?_)
    refine step_append_lies _ rfl _ _ _ rfl B 63 i0 (.pointer none) 1 8 underlying31 hi0 hza0 hza1 hza2 rfl (by decide) m2.vt s.T.length (m2.bs.map pv) rfl (za HP2).oa ⟨wg.heap.size,0,none⟩ 1 1 [.pointer (some ⟨tb,0,none⟩)] rfl rfl (World.news_of_block (za HNA2)) (fun u hu=>by simp at hu;subst hu;rfl) (by decide) (by unfold maxLen;omega) (by omega) (Nat.le_trans (za HBB) (za HP2).sz) _ rfl ?_
    intro g2 cap2 w2x hown hgrow hat hlt
    have HP3:=zc ((za HP2).first hown hgrow hat)
    have HNB3:=zc (ag3 hgrow (za HNB2) (fun e=>absurd (za HLA _ e) (by have:=(za HP0).sz;simp;try omega)))
    clear hown hgrow hat hlt
    refine hK.out _ _ ⟨(za HP3).cell e1 hz1 hz2,(za HP3).cell e2 hz1 hz2⟩ (fun hHeld=>?_)
    clear hK K
    simp only[Act.put,sA,sB,sC]
    refine abq (i:=16) (o:={ dst:=some 139,op:=_,type:=_,pos:=_,after:=_,guard:=_ }) (by kernel_rfl) rfl (fun K hK=>?_)
    refine step_append_lies _ rfl _ _ _ rfl B 69 i1 (.agg #[.int .i64 0,.int .i64 0,.string ByteArray.empty]) 3 32 underlying32 hi1 hzb0 hzb1 hzb2 rfl (by decide) m2.vw s.wh.length (s.wh.flatMap aaw) rfl (za HP3).ob ⟨wg.heap.size+1,0,none⟩ 1 1 [.int .i64 4,.int .i64 (s.P.fy+2*s.P.Y.length),.string ⟨#[]⟩] rfl rfl (World.news_of_block (za HNB3)) (fun u hu=>by simp at hu;rcases hu with rfl | rfl | rfl <;> rfl) (by decide) (by unfold maxLen;omega) (by omega) (Nat.le_trans (za HBB) (za HP3).sz) _ rfl ?_
    intro g3 cap3 w3x hown hgrow hat hlt
    have HP4:=zc ((za HP3).second hown hgrow hat)
    clear hown hgrow hat hlt
    refine hK.out _ _ ⟨(za HP4).cell e1 hz1 hz2,(za HP4).cell e2 hz1 hz2⟩ (fun hHeld=>?_)
    clear hK K
    simp only[Act.put,sA,sB,sC]
    refine zn (i:=17) (oi:={ dst:=some 140,op:=_,type:=_,pos:=_,after:=_,guard:=_ }) (v:=?_) rfl (by kernel_rfl) (by kernel_rfl) (by kernel_rfl) (by rfl) (fun _ _ _ h=>h) (Or.inl ⟨by rfl,?_⟩) (by assumption) ?_
    case refine_2 =>
     intro w hSw
     try dsimp only at hSw
     go_simp
     try with_reducible rfl
    simp only[Act.put,sA,sB,sC]
    refine zn (i:=18) (oi:={ dst:=some 141,op:=_,type:=_,pos:=_,after:=_,guard:=_ }) (v:=?_) rfl (by kernel_rfl) (by kernel_rfl) (by kernel_rfl) (by rfl) (fun _ _ _ h=>h) (Or.inl ⟨by rfl,?_⟩) (by assumption) ?_
    case refine_2 =>
     intro w hSw
     try dsimp only at hSw
     go_simp
     try with_reducible rfl
    simp only[Act.put,sA,sB,sC]
    have y0:=((za HP4).fr zb (hlt (za HZB)) hz1 hz2).trans (za HZB)
    have y1:w3x.cell? ⟨zb,1,none⟩=some m2.vt:=hHeld.1
    have y2:w3x.cell? ⟨zb,2,none⟩=some m2.vw:=hHeld.2
    have z1:=zt y0 1
    have z2:=zt y0 2
    have HY:=zc y0
    clear y0
    refine acp (o:={ dst:=none,op:=_,type:=_,pos:=_,after:=_,guard:=_ }) (by kernel_rfl) rfl (fun K hK=>?_)
    go_simp
    refine hK.out _ _ ?_
    clear hK K
    refine wpAny_take (i:=20) (oi:={ dst:=some 142,op:=_,type:=_,pos:=_,after:=_,guard:=_ }) (v:=?_) rfl (by kernel_rfl) (by kernel_rfl) (by kernel_rfl) (fun _ _ _ h=>h) (Or.inl ⟨by rfl,?_⟩) ?_
    case refine_2 =>
     intro w
     go_simp
     try with_reducible rfl
    simp only[Act.put,sA,sB,sC]
    refine wpAny_take (i:=21) (oi:={ dst:=some 143,op:=_,type:=_,pos:=_,after:=_,guard:=_ }) (v:=?_) rfl (by kernel_rfl) (by kernel_rfl) (by kernel_rfl) (fun _ _ _ h=>h) (Or.inl ⟨by rfl,?_⟩) ?_
    case refine_2 =>
     intro w
     go_simp
     try with_reducible rfl
    simp only[Act.put,sA,sB,sC]
    refine ad7 (i:=22) (o:={ dst:=none,op:=_,type:=_,pos:=_,after:=_,guard:=_ }) (by kernel_rfl) rfl (fun K hK=>?_)
    go_simp
    refine hK.out _ _ ?_
    clear hK K
    refine wpAny_done (by kernel_rfl) ?_ _
    go_wp2_with fail
    go_meet
    exact⟨_,_,(za HZ).things (v:=toA (s.P.fy+2*s.P.Y.length)) (za HK) (za HP4)⟩
  ·go_simp
   have HP1:=zc ((za HP0).alloc (.cells #[.int .i64 4,.int .i64 (s.P.fy+2*s.P.Y.length),.string ⟨#[]⟩] 69))
   have HNB1:=zc (ab2 wg.drew (.cells #[.int .i64 4,.int .i64 (s.P.fy+2*s.P.Y.length),.string ⟨#[]⟩] 69) (n:=wg.heap.size) (by rfl))
   refine hK.out _ _ ⟨(za HP1).cell e1 hz1 hz2,(za HP1).cell e2 hz1 hz2⟩ (fun hHeld=>?_)
   clear hK K
   refine abq (i:=7) (o:={ dst:=some 130,op:=_,type:=_,pos:=_,after:=_,guard:=_ }) (by kernel_rfl) rfl (fun K hK=>?_)
   go_simp
   have HP2:=zc ((za HP1).alloc (.cells #[.pointer (some ⟨tb,0,none⟩)] 63))
   have HNB2:=zc (ac5 (.cells #[.pointer (some ⟨tb,0,none⟩)] 63) (za HNB1))
   have HNA2:=zc (ab2 (wg.drew.alloc (.cells #[.int .i64 4,.int .i64 (s.P.fy+2*s.P.Y.length),.string ⟨#[]⟩] 69)) (.cells #[.pointer (some ⟨tb,0,none⟩)] 63) (n:=wg.heap.size+1) (by simp))
   refine hK.out _ _ ⟨(za HP2).cell e1 hz1 hz2,(za HP2).cell e2 hz1 hz2⟩ (fun hHeld=>?_)
   clear hK K
   refine abq (i:=8) (o:={ dst:=some 131,op:=_,type:=_,pos:=_,after:=_,guard:=_ }) (by kernel_rfl) rfl (fun K hK=>?_)
   refine step_append_lies _ rfl _ _ _ rfl B 63 i0 (.pointer none) 1 8 underlying31 hi0 hza0 hza1 hza2 rfl (by decide) m2.vt s.T.length (m2.bs.map pv) rfl (za HP2).oa ⟨wg.heap.size+1,0,none⟩ 1 1 [.pointer (some ⟨tb,0,none⟩)] rfl rfl (World.news_of_block (za HNA2)) (fun u hu=>by simp at hu;subst hu;rfl) (by decide) (by unfold maxLen;omega) (by omega) (Nat.le_trans (za HBB) (za HP2).sz) _ rfl ?_
   intro g2 cap2 w2x hown hgrow hat hlt
   have HP3:=zc ((za HP2).first hown hgrow hat)
   have HNB3:=zc (ag3 hgrow (za HNB2) (fun e=>absurd (za HLA _ e) (by have:=(za HP0).sz;simp;try omega)))
   clear hown hgrow hat hlt
   refine hK.out _ _ ⟨(za HP3).cell e1 hz1 hz2,(za HP3).cell e2 hz1 hz2⟩ (fun hHeld=>?_)
   clear hK K
   simp only[Act.put,sA,sB,sC]
   refine abq (i:=16) (o:={ dst:=some 139,op:=_,type:=_,pos:=_,after:=_,guard:=_ }) (by kernel_rfl) rfl (fun K hK=>?_)
   refine step_append_lies _ rfl _ _ _ rfl B 69 i1 (.agg #[.int .i64 0,.int .i64 0,.string ByteArray.empty]) 3 32 underlying32 hi1 hzb0 hzb1 hzb2 rfl (by decide) m2.vw s.wh.length (s.wh.flatMap aaw) rfl (za HP3).ob ⟨wg.heap.size,0,none⟩ 1 1 [.int .i64 4,.int .i64 (s.P.fy+2*s.P.Y.length),.string ⟨#[]⟩] rfl rfl (World.news_of_block (za HNB3)) (fun u hu=>by simp at hu;rcases hu with rfl | rfl | rfl <;> rfl) (by decide) (by unfold maxLen;omega) (by omega) (Nat.le_trans (za HBB) (za HP3).sz) _ rfl ?_
   intro g3 cap3 w3x hown hgrow hat hlt
   have HP4:=zc ((za HP3).second hown hgrow hat)
   clear hown hgrow hat hlt
   refine hK.out _ _ ⟨(za HP4).cell e1 hz1 hz2,(za HP4).cell e2 hz1 hz2⟩ (fun hHeld=>?_)
   clear hK K
   simp only[Act.put,sA,sB,sC]
   refine zn (i:=17) (oi:={ dst:=some 140,op:=_,type:=_,pos:=_,after:=_,guard:=_ }) (v:=?_) rfl (by kernel_rfl) (by kernel_rfl) (by kernel_rfl) (by rfl) (fun _ _ _ h=>h) (Or.inl ⟨by rfl,?_⟩) (by assumption) ?_
   case refine_2 =>
    intro w hSw
    try dsimp only at hSw
    go_simp
    try with_reducible rfl
   simp only[Act.put,sA,sB,sC]
   refine zn (i:=18) (oi:={ dst:=some 141,op:=_,type:=_,pos:=_,after:=_,guard:=_ }) (v:=?_) rfl (by kernel_rfl) (by kernel_rfl) (by kernel_rfl) (by rfl) (fun _ _ _ h=>h) (Or.inl ⟨by rfl,?_⟩) (by assumption) ?_
   case refine_2 =>
    intro w hSw
    try dsimp only at hSw
    go_simp
    try with_reducible rfl
   simp only[Act.put,sA,sB,sC]
   have y0:=((za HP4).fr zb (hlt (za HZB)) hz1 hz2).trans (za HZB)
   have y1:w3x.cell? ⟨zb,1,none⟩=some m2.vt:=hHeld.1
   have y2:w3x.cell? ⟨zb,2,none⟩=some m2.vw:=hHeld.2
   have z1:=zt y0 1
   have z2:=zt y0 2
   have HY:=zc y0
   clear y0
   refine acp (o:={ dst:=none,op:=_,type:=_,pos:=_,after:=_,guard:=_ }) (by kernel_rfl) rfl (fun K hK=>?_)
   go_simp
   refine hK.out _ _ ?_
   clear hK K
   refine wpAny_take (i:=20) (oi:={ dst:=some 142,op:=_,type:=_,pos:=_,after:=_,guard:=_ }) (v:=?_) rfl (by kernel_rfl) (by kernel_rfl) (by kernel_rfl) (fun _ _ _ h=>h) (Or.inl ⟨by rfl,?_⟩) ?_
   case refine_2 =>
    intro w
    go_simp
    try with_reducible rfl
   simp only[Act.put,sA,sB,sC]
   refine wpAny_take (i:=21) (oi:={ dst:=some 143,op:=_,type:=_,pos:=_,after:=_,guard:=_ }) (v:=?_) rfl (by kernel_rfl) (by kernel_rfl) (by kernel_rfl) (fun _ _ _ h=>h) (Or.inl ⟨by rfl,?_⟩) ?_
   case refine_2 =>
    intro w
    go_simp
    try with_reducible rfl
   simp only[Act.put,sA,sB,sC]
   refine ad7 (i:=22) (o:={ dst:=none,op:=_,type:=_,pos:=_,after:=_,guard:=_ }) (by kernel_rfl) rfl (fun K hK=>?_)
   go_simp
   refine hK.out _ _ ?_
   clear hK K
   refine wpAny_done (by kernel_rfl) ?_ _
   go_wp2_with fail
   go_meet
   exact⟨_,_,(za HZ).things (v:=toA (s.P.fy+2*s.P.Y.length)) (za HK) (za HP4)⟩
 rename World=>wi
 obtain⟨vt3,vw3,hZ⟩:=za hcut
 generalize hm3:({ m2 with vt:=vt3,vw:=vw3,bs:=m2.bs++[tb],vis:=m2.vis++[vi] }:ZM)=m3 at hZ
 have HN3:Hid (m3.n≤m.n+1∧m3.hp=m.hp):=by rw[←hm3];exact za HN2
 clear hm3
 have HY:=zc hZ.drew
 have e1:wi.drew.cell? ⟨zb,3,none⟩=some m3.vh:=zd hZ.drew.zr.blk 3
 have e2:wi.drew.cell? ⟨zb,4,none⟩=some m3.vk:=zd hZ.drew.zr.blk 4
 obtain⟨i0,hi0,hza0,hza1,hza2⟩:=info_parts akh
 have hz1:m3.vh.ownBlock≠some zb:=hZ.zr.zbt hZ.zr.hr (by decide)
 have hz2:m3.vk.ownBlock≠some zb:=hZ.zr.zbt hZ.zr.kr (by decide)
 have HP0:=zc (Pr.start hZ.drew.zr.hr hZ.drew.zr.kr hZ.zr.hk)
 have HLA:Hid (∀j,m3.vh.ownBlock=some j→j<wi.heap.size):=fun j hj=>(zp hZ.zr.hr j hj).2.1
 have HZB:=zc hZ.drew.zr.blk
 have HBB:=zc hZ.drew.hg.hB
 clear hZ hcut HZ HK
 go_wp2_with fail
 go_cut [] (fun wj=>Hid (∃vh' vk',Zh B w wj zb { m3 with vh:=vh',vk:=vk' } P2 D2 { aau s.P with top:=(tp:Int)+(1+(sz:Int)) } (s.T++[⟨a,b,id,false,List.replicate sz 0⟩]) (s.wh++[toA (s.P.fy+2*s.P.Y.length)]) (s.here++[true]) (s.known++[true])))
 case first =>
  refine ace (S:=fun w'=>w'.cell? ⟨zb,3,none⟩=some m3.vh∧w'.cell? ⟨zb,4,none⟩=some m3.vk) 16 (by kernel_rfl) ⟨e1,e2⟩ (fun hHeld=>?_)
  refine zn (i:=0) (oi:={ dst:=some 144,op:=_,type:=_,pos:=_,after:=_,guard:=_ }) (v:=?_) rfl (by kernel_rfl) (by kernel_rfl) (by kernel_rfl) (by rfl) (fun _ _ _ h=>h) (Or.inl ⟨by rfl,?_⟩) (by assumption) ?_
  case refine_2 =>
   intro w hSw
   try dsimp only at hSw
   go_simp
   try with_reducible rfl
  simp only[Act.put,sA,sB,sC]
  refine zn (i:=1) (oi:={ dst:=some 145,op:=_,type:=_,pos:=_,after:=_,guard:=_ }) (v:=?_) rfl (by kernel_rfl) (by kernel_rfl) (by kernel_rfl) (by rfl) (fun _ _ _ h=>h) (Or.inl ⟨by rfl,?_⟩) (by assumption) ?_
  case refine_2 =>
   intro w hSw
   try dsimp only at hSw
   go_simp
   try with_reducible rfl
  simp only[Act.put,sA,sB,sC]
  refine zn (i:=2) (oi:={ dst:=some 146,op:=_,type:=_,pos:=_,after:=_,guard:=_ }) (v:=?_) rfl (by kernel_rfl) (by kernel_rfl) (by kernel_rfl) (by rfl) (fun _ _ _ h=>h) (Or.inl ⟨by rfl,?_⟩) (by assumption) ?_
  case refine_2 =>
   intro w hSw
   try dsimp only at hSw
   go_simp
   try with_reducible rfl
  simp only[Act.put,sA,sB,sC]
  refine zn (i:=3) (oi:={ dst:=some 147,op:=_,type:=_,pos:=_,after:=_,guard:=_ }) (v:=?_) rfl (by kernel_rfl) (by kernel_rfl) (by kernel_rfl) (by rfl) (fun _ _ _ h=>h) (Or.inl ⟨by rfl,?_⟩) (by assumption) ?_
  case refine_2 =>
   intro w hSw
   try dsimp only at hSw
   go_simp
   try with_reducible rfl
  simp only[Act.put,sA,sB,sC]
  refine zn (i:=4) (oi:={ dst:=some 148,op:=_,type:=_,pos:=_,after:=_,guard:=_ }) (v:=?_) rfl (by kernel_rfl) (by kernel_rfl) (by kernel_rfl) (by rfl) (fun _ _ _ h=>h) (Or.inl ⟨by rfl,?_⟩) (by assumption) ?_
  case refine_2 =>
   intro w hSw
   try dsimp only at hSw
   go_simp
   try with_reducible rfl
  simp only[Act.put,sA,sB,sC]
  refine aal (i:=5) (cs:=[7,16]) (oi:={ dst:=some 149,op:=_,type:=_,pos:=_,after:=_,guard:=_ }) (v:=?_) rfl (by kernel_rfl) (by kernel_rfl) (by kernel_rfl) (by rfl) (by kernel_rfl) (fun _ _ _ h=>h) (Or.inl ⟨by rfl,?_⟩) (by assumption) ?_
  case refine_2 =>
   intro w hSw
   try dsimp only at hSw
   go_simp
   try with_reducible rfl
  simp only[Act.put,sA,sB,sC]
  refine zn (i:=8) (oi:={ dst:=some 152,op:=_,type:=_,pos:=_,after:=_,guard:=_ }) (v:=?_) rfl (by kernel_rfl) (by kernel_rfl) (by kernel_rfl) (by rfl) (fun _ _ _ h=>h) (Or.inl ⟨by rfl,?_⟩) (by assumption) ?_
  case refine_2 =>
   intro w hSw
   try dsimp only at hSw
   go_simp
   try with_reducible rfl
  simp only[Act.put,sA,sB,sC]
  refine zn (i:=9) (oi:={ dst:=some 153,op:=_,type:=_,pos:=_,after:=_,guard:=_ }) (v:=?_) rfl (by kernel_rfl) (by kernel_rfl) (by kernel_rfl) (by rfl) (fun _ _ _ h=>h) (Or.inl ⟨by rfl,?_⟩) (by assumption) ?_
  case refine_2 =>
   intro w hSw
   try dsimp only at hSw
   go_simp
   try with_reducible rfl
  simp only[Act.put,sA,sB,sC]
  refine zn (i:=10) (oi:={ dst:=some 154,op:=_,type:=_,pos:=_,after:=_,guard:=_ }) (v:=?_) rfl (by kernel_rfl) (by kernel_rfl) (by kernel_rfl) (by rfl) (fun _ _ _ h=>h) (Or.inl ⟨by rfl,?_⟩) (by assumption) ?_
  case refine_2 =>
   intro w hSw
   try dsimp only at hSw
   go_simp
   try with_reducible rfl
  simp only[Act.put,sA,sB,sC]
  refine aal (i:=11) (cs:=[13,16]) (oi:={ dst:=some 155,op:=_,type:=_,pos:=_,after:=_,guard:=_ }) (v:=?_) rfl (by kernel_rfl) (by kernel_rfl) (by kernel_rfl) (by rfl) (by kernel_rfl) (fun _ _ _ h=>h) (Or.inl ⟨by rfl,?_⟩) (by assumption) ?_
  case refine_2 =>
   intro w hSw
   try dsimp only at hSw
   go_simp
   try with_reducible rfl
  simp only[Act.put,sA,sB,sC]
  refine af3 (i:=6) (j:=12) (o:={ dst:=some 150,op:=_,type:=_,pos:=_,after:=_,guard:=_ }) (p:={ dst:=some 156,op:=_,type:=_,pos:=_,after:=_,guard:=_ }) (by kernel_rfl) rfl rfl (fun K hK=>?_) (fun K hK=>?_)
  ·go_simp
   have HP1:=zc ((za HP0).alloc (.cells #[.bool true] 4))
   have HNA1:=zc (ab2 wi.drew (.cells #[.bool true] 4) (n:=wi.heap.size) (by rfl))
   refine hK.out _ _ ⟨(za HP1).cell e1 hz1 hz2,(za HP1).cell e2 hz1 hz2⟩ (fun hHeld=>?_)
   clear hK K
   refine af3 (i:=7) (j:=12) (o:={ dst:=some 151,op:=_,type:=_,pos:=_,after:=_,guard:=_ }) (p:={ dst:=some 156,op:=_,type:=_,pos:=_,after:=_,guard:=_ }) (by kernel_rfl) rfl rfl (fun K hK=>?_) (fun K hK=>?_)
   ·refine step_append_lies _ rfl _ _ _ rfl B 4 i0 (.bool false) 1 1 underlying33 hi0 hza0 hza1 hza2 rfl (by decide) m3.vh s.here.length (s.here.map Value.bool) rfl (za HP1).oa ⟨wi.heap.size,0,none⟩ 1 1 [.bool true] rfl rfl (World.news_of_block (za HNA1)) (fun u hu=>by simp at hu;subst hu;rfl) (by decide) (by unfold maxLen;omega) (by omega) (Nat.le_trans (za HBB) (za HP1).sz) _ rfl ?_
    intro g1 cap1 w1x hown hgrow hat hlt
    have HP2:=zc ((za HP1).first hown hgrow hat)
    clear hown hgrow hat hlt
    refine hK.out _ _ ⟨(za HP2).cell e1 hz1 hz2,(za HP2).cell e2 hz1 hz2⟩ (fun hHeld=>?_)
    clear hK K
    simp only[Act.put,sA,sB,sC]
    refine abq (i:=12) (o:={ dst:=some 156,op:=_,type:=_,pos:=_,after:=_,guard:=_ }) (by kernel_rfl) rfl (fun K hK=>?_)
    go_simp
    have HP3:=zc ((za HP2).alloc (.cells #[.bool true] 4))
    have HNB3:=zc (ab2 w1x (.cells #[.bool true] 4) (n:=w1x.heap.size) (by rfl))
    refine hK.out _ _ ⟨(za HP3).cell e1 hz1 hz2,(za HP3).cell e2 hz1 hz2⟩ (fun hHeld=>?_)
    clear hK K
    refine abq (i:=13) (o:={ dst:=some 157,op:=_,type:=_,pos:=_,after:=_,guard:=_ }) (by kernel_rfl) rfl (fun K hK=>?_)
    refine step_append_lies _ rfl _ _ _ rfl B 4 i0 (.bool false) 1 1 underlying33 hi0 hza0 hza1 hza2 rfl (by decide) m3.vk s.known.length (s.known.map Value.bool) rfl (za HP3).ob ⟨w1x.heap.size,0,none⟩ 1 1 [.bool true] rfl rfl (World.news_of_block (za HNB3)) (fun u hu=>by simp at hu;subst hu;rfl) (by decide) (by unfold maxLen;omega) (by omega) (Nat.le_trans (za HBB) (za HP3).sz) _ rfl ?_
    intro g3 cap3 w3x hown hgrow hat hlt
    have HP4:=zc ((za HP3).second hown hgrow hat)
    clear hown hgrow hat hlt
    refine hK.out _ _ ⟨(za HP4).cell e1 hz1 hz2,(za HP4).cell e2 hz1 hz2⟩ (fun hHeld=>?_)
    clear hK K
    simp only[Act.put,sA,sB,sC]
    refine zn (i:=14) (oi:={ dst:=some 158,op:=_,type:=_,pos:=_,after:=_,guard:=_ }) (v:=?_) rfl (by kernel_rfl) (by kernel_rfl) (by kernel_rfl) (by rfl) (fun _ _ _ h=>h) (Or.inl ⟨by rfl,?_⟩) (by assumption) ?_
    case refine_2 =>
     intro w hSw
     try dsimp only at hSw
     go_simp
     try with_reducible rfl
    simp only[Act.put,sA,sB,sC]
    refine zn (i:=15) (oi:={ dst:=some 159,op:=_,type:=_,pos:=_,after:=_,guard:=_ }) (v:=?_) rfl (by kernel_rfl) (by kernel_rfl) (by kernel_rfl) (by rfl) (fun _ _ _ h=>h) (Or.inl ⟨by rfl,?_⟩) (by assumption) ?_
    case refine_2 =>
     intro w hSw
     try dsimp only at hSw
     go_simp
     try with_reducible rfl
    simp only[Act.put,sA,sB,sC]
    have y0:=((za HP4).fr zb (hlt (za HZB)) hz1 hz2).trans (za HZB)
    have y1:w3x.cell? ⟨zb,3,none⟩=some m3.vh:=hHeld.1
    have y2:w3x.cell? ⟨zb,4,none⟩=some m3.vk:=hHeld.2
    have z1:=zt y0 3
    have z2:=zt y0 4
    have HYY:=zc y0
    clear y0
    refine acp (o:={ dst:=none,op:=_,type:=_,pos:=_,after:=_,guard:=_ }) (by kernel_rfl) rfl (fun K hK=>?_)
    go_simp
    refine hK.out _ _ ?_
    clear hK K
    refine wpAny_take (i:=17) (oi:={ dst:=some 160,op:=_,type:=_,pos:=_,after:=_,guard:=_ }) (v:=?_) rfl (by kernel_rfl) (by kernel_rfl) (by kernel_rfl) (fun _ _ _ h=>h) (Or.inl ⟨by rfl,?_⟩) ?_
    case refine_2 =>
     intro w
     go_simp
     try with_reducible rfl
    simp only[Act.put,sA,sB,sC]
    refine wpAny_take (i:=18) (oi:={ dst:=some 161,op:=_,type:=_,pos:=_,after:=_,guard:=_ }) (v:=?_) rfl (by kernel_rfl) (by kernel_rfl) (by kernel_rfl) (fun _ _ _ h=>h) (Or.inl ⟨by rfl,?_⟩) ?_
    case refine_2 =>
     intro w
     go_simp
     try with_reducible rfl
    simp only[Act.put,sA,sB,sC]
    refine ad7 (i:=19) (o:={ dst:=none,op:=_,type:=_,pos:=_,after:=_,guard:=_ }) (by kernel_rfl) rfl (fun K hK=>?_)
    go_simp
    refine hK.out _ _ ?_
    clear hK K
    refine wpAny_done (by kernel_rfl) ?_ _
    go_wp2_with fail
    go_meet
    exact⟨_,_,(za HY).flags (za HP4)⟩
   ·go_simp
    have HP2:=zc ((za HP1).alloc (.cells #[.bool true] 4))
    have HNA2:=zc (ac5 (.cells #[.bool true] 4) (za HNA1))
    have HNB2:=zc (ab2 (wi.drew.alloc (.cells #[.bool true] 4)) (.cells #[.bool true] 4) (n:=wi.heap.size+1) (by simp))
    refine hK.out _ _ ⟨(za HP2).cell e1 hz1 hz2,(za HP2).cell e2 hz1 hz2⟩ (fun hHeld=>?_)
    clear hK K
    refine abq (i:=7) (o:={ dst:=some 151,op:=_,type:=_,pos:=_,after:=_,guard:=_ }) (by kernel_rfl) rfl (fun K hK=>?_)
    refine step_append_lies _ rfl _ _ _ rfl B 4 i0 (.bool false) 1 1 underlying33 hi0 hza0 hza1 hza2 rfl (by decide) m3.vh s.here.length (s.here.map Value.bool) rfl (za HP2).oa ⟨wi.heap.size,0,none⟩ 1 1 [.bool true] rfl rfl (World.news_of_block (za HNA2)) (fun u hu=>by simp at hu;subst hu;rfl) (by decide) (by unfold maxLen;omega) (by omega) (Nat.le_trans (za HBB) (za HP2).sz) _ rfl ?_
    intro g2 cap2 w2x hown hgrow hat hlt
    have HP3:=zc ((za HP2).first hown hgrow hat)
    have HNB3:=zc (ag3 hgrow (za HNB2) (fun e=>absurd (za HLA _ e) (by have:=(za HP0).sz;simp;try omega)))
    clear hown hgrow hat hlt
    refine hK.out _ _ ⟨(za HP3).cell e1 hz1 hz2,(za HP3).cell e2 hz1 hz2⟩ (fun hHeld=>?_)
    clear hK K
    simp only[Act.put,sA,sB,sC]
    refine abq (i:=13) (o:={ dst:=some 157,op:=_,type:=_,pos:=_,after:=_,guard:=_ }) (by kernel_rfl) rfl (fun K hK=>?_)
    refine step_append_lies _ rfl _ _ _ rfl B 4 i0 (.bool false) 1 1 underlying33 hi0 hza0 hza1 hza2 rfl (by decide) m3.vk s.known.length (s.known.map Value.bool) rfl (za HP3).ob ⟨wi.heap.size+1,0,none⟩ 1 1 [.bool true] rfl rfl (World.news_of_block (za HNB3)) (fun u hu=>by simp at hu;subst hu;rfl) (by decide) (by unfold maxLen;omega) (by omega) (Nat.le_trans (za HBB) (za HP3).sz) _ rfl ?_
    intro g3 cap3 w3x hown hgrow hat hlt
    have HP4:=zc ((za HP3).second hown hgrow hat)
    clear hown hgrow hat hlt
    refine hK.out _ _ ⟨(za HP4).cell e1 hz1 hz2,(za HP4).cell e2 hz1 hz2⟩ (fun hHeld=>?_)
    clear hK K
    simp only[Act.put,sA,sB,sC]
    refine zn (i:=14) (oi:={ dst:=some 158,op:=_,type:=_,pos:=_,after:=_,guard:=_ }) (v:=?_) rfl (by kernel_rfl) (by kernel_rfl) (by kernel_rfl) (by rfl) (fun _ _ _ h=>h) (Or.inl ⟨by rfl,?_⟩) (by assumption) ?_
    case refine_2 =>
     intro w hSw
     try dsimp only at hSw
     go_simp
     try with_reducible rfl
    simp only[Act.put,sA,sB,sC]
    refine zn (i:=15) (oi:={ dst:=some 159,op:=_,type:=_,pos:=_,after:=_,guard:=_ }) (v:=?_) rfl (by kernel_rfl) (by kernel_rfl) (by kernel_rfl) (by rfl) (fun _ _ _ h=>h) (Or.inl ⟨by rfl,?_⟩) (by assumption) ?_
    case refine_2 =>
     intro w hSw
     try dsimp only at hSw
     go_simp
     try with_reducible rfl
    simp only[Act.put,sA,sB,sC]
    have y0:=((za HP4).fr zb (hlt (za HZB)) hz1 hz2).trans (za HZB)
    have y1:w3x.cell? ⟨zb,3,none⟩=some m3.vh:=hHeld.1
    have y2:w3x.cell? ⟨zb,4,none⟩=some m3.vk:=hHeld.2
    have z1:=zt y0 3
    have z2:=zt y0 4
    have HYY:=zc y0
    clear y0
    refine acp (o:={ dst:=none,op:=_,type:=_,pos:=_,after:=_,guard:=_ }) (by kernel_rfl) rfl (fun K hK=>?_)
    go_simp
    refine hK.out _ _ ?_
    clear hK K
    refine wpAny_take (i:=17) (oi:={ dst:=some 160,op:=_,type:=_,pos:=_,after:=_,guard:=_ }) (v:=?_) rfl (by kernel_rfl) (by kernel_rfl) (by kernel_rfl) (fun _ _ _ h=>h) (Or.inl ⟨by rfl,?_⟩) ?_
    case refine_2 =>
     intro w
     go_simp
     try with_reducible rfl
    simp only[Act.put,sA,sB,sC]
    refine wpAny_take (i:=18) (oi:={ dst:=some 161,op:=_,type:=_,pos:=_,after:=_,guard:=_ }) (v:=?_) rfl (by kernel_rfl) (by kernel_rfl) (by kernel_rfl) (fun _ _ _ h=>h) (Or.inl ⟨by rfl,?_⟩) ?_
    case refine_2 =>
     intro w
     go_simp
     try with_reducible rfl
    simp only[Act.put,sA,sB,sC]
    refine ad7 (i:=19) (o:={ dst:=none,op:=_,type:=_,pos:=_,after:=_,guard:=_ }) (by kernel_rfl) rfl (fun K hK=>?_)
    go_simp
    refine hK.out _ _ ?_
    clear hK K
    refine wpAny_done (by kernel_rfl) ?_ _
    go_wp2_with fail
    go_meet
    exact⟨_,_,(za HY).flags (za HP4)⟩
  ·go_simp
   have HP1:=zc ((za HP0).alloc (.cells #[.bool true] 4))
   have HNB1:=zc (ab2 wi.drew (.cells #[.bool true] 4) (n:=wi.heap.size) (by rfl))
   refine hK.out _ _ ⟨(za HP1).cell e1 hz1 hz2,(za HP1).cell e2 hz1 hz2⟩ (fun hHeld=>?_)
   clear hK K
   refine abq (i:=6) (o:={ dst:=some 150,op:=_,type:=_,pos:=_,after:=_,guard:=_ }) (by kernel_rfl) rfl (fun K hK=>?_)
   go_simp
   have HP2:=zc ((za HP1).alloc (.cells #[.bool true] 4))
   have HNB2:=zc (ac5 (.cells #[.bool true] 4) (za HNB1))
   have HNA2:=zc (ab2 (wi.drew.alloc (.cells #[.bool true] 4)) (.cells #[.bool true] 4) (n:=wi.heap.size+1) (by simp))
   refine hK.out _ _ ⟨(za HP2).cell e1 hz1 hz2,(za HP2).cell e2 hz1 hz2⟩ (fun hHeld=>?_)
   clear hK K
   refine abq (i:=7) (o:={ dst:=some 151,op:=_,type:=_,pos:=_,after:=_,guard:=_ }) (by kernel_rfl) rfl (fun K hK=>?_)
   refine step_append_lies _ rfl _ _ _ rfl B 4 i0 (.bool false) 1 1 underlying33 hi0 hza0 hza1 hza2 rfl (by decide) m3.vh s.here.length (s.here.map Value.bool) rfl (za HP2).oa ⟨wi.heap.size+1,0,none⟩ 1 1 [.bool true] rfl rfl (World.news_of_block (za HNA2)) (fun u hu=>by simp at hu;subst hu;rfl) (by decide) (by unfold maxLen;omega) (by omega) (Nat.le_trans (za HBB) (za HP2).sz) _ rfl ?_
   intro g2 cap2 w2x hown hgrow hat hlt
   have HP3:=zc ((za HP2).first hown hgrow hat)
   have HNB3:=zc (ag3 hgrow (za HNB2) (fun e=>absurd (za HLA _ e) (by have:=(za HP0).sz;simp;try omega)))
   clear hown hgrow hat hlt
   refine hK.out _ _ ⟨(za HP3).cell e1 hz1 hz2,(za HP3).cell e2 hz1 hz2⟩ (fun hHeld=>?_)
   clear hK K
   simp only[Act.put,sA,sB,sC]
   refine abq (i:=13) (o:={ dst:=some 157,op:=_,type:=_,pos:=_,after:=_,guard:=_ }) (by kernel_rfl) rfl (fun K hK=>?_)
   refine step_append_lies _ rfl _ _ _ rfl B 4 i0 (.bool false) 1 1 underlying33 hi0 hza0 hza1 hza2 rfl (by decide) m3.vk s.known.length (s.known.map Value.bool) rfl (za HP3).ob ⟨wi.heap.size,0,none⟩ 1 1 [.bool true] rfl rfl (World.news_of_block (za HNB3)) (fun u hu=>by simp at hu;subst hu;rfl) (by decide) (by unfold maxLen;omega) (by omega) (Nat.le_trans (za HBB) (za HP3).sz) _ rfl ?_
   intro g3 cap3 w3x hown hgrow hat hlt
   have HP4:=zc ((za HP3).second hown hgrow hat)
   clear hown hgrow hat hlt
   refine hK.out _ _ ⟨(za HP4).cell e1 hz1 hz2,(za HP4).cell e2 hz1 hz2⟩ (fun hHeld=>?_)
   clear hK K
   simp only[Act.put,sA,sB,sC]
   refine zn (i:=14) (oi:={ dst:=some 158,op:=_,type:=_,pos:=_,after:=_,guard:=_ }) (v:=?_) rfl (by kernel_rfl) (by kernel_rfl) (by kernel_rfl) (by rfl) (fun _ _ _ h=>h) (Or.inl ⟨by rfl,?_⟩) (by assumption) ?_
   case refine_2 =>
    intro w hSw
    try dsimp only at hSw
    go_simp
    try with_reducible rfl
   simp only[Act.put,sA,sB,sC]
   refine zn (i:=15) (oi:={ dst:=some 159,op:=_,type:=_,pos:=_,after:=_,guard:=_ }) (v:=?_) rfl (by kernel_rfl) (by kernel_rfl) (by kernel_rfl) (by rfl) (fun _ _ _ h=>h) (Or.inl ⟨by rfl,?_⟩) (by assumption) ?_
   case refine_2 =>
    intro w hSw
    try dsimp only at hSw
    go_simp
    try with_reducible rfl
   simp only[Act.put,sA,sB,sC]
   have y0:=((za HP4).fr zb (hlt (za HZB)) hz1 hz2).trans (za HZB)
   have y1:w3x.cell? ⟨zb,3,none⟩=some m3.vh:=hHeld.1
   have y2:w3x.cell? ⟨zb,4,none⟩=some m3.vk:=hHeld.2
   have z1:=zt y0 3
   have z2:=zt y0 4
   have HYY:=zc y0
   clear y0
   refine acp (o:={ dst:=none,op:=_,type:=_,pos:=_,after:=_,guard:=_ }) (by kernel_rfl) rfl (fun K hK=>?_)
   go_simp
   refine hK.out _ _ ?_
   clear hK K
   refine wpAny_take (i:=17) (oi:={ dst:=some 160,op:=_,type:=_,pos:=_,after:=_,guard:=_ }) (v:=?_) rfl (by kernel_rfl) (by kernel_rfl) (by kernel_rfl) (fun _ _ _ h=>h) (Or.inl ⟨by rfl,?_⟩) ?_
   case refine_2 =>
    intro w
    go_simp
    try with_reducible rfl
   simp only[Act.put,sA,sB,sC]
   refine wpAny_take (i:=18) (oi:={ dst:=some 161,op:=_,type:=_,pos:=_,after:=_,guard:=_ }) (v:=?_) rfl (by kernel_rfl) (by kernel_rfl) (by kernel_rfl) (fun _ _ _ h=>h) (Or.inl ⟨by rfl,?_⟩) ?_
   case refine_2 =>
    intro w
    go_simp
    try with_reducible rfl
   simp only[Act.put,sA,sB,sC]
   refine ad7 (i:=19) (o:={ dst:=none,op:=_,type:=_,pos:=_,after:=_,guard:=_ }) (by kernel_rfl) rfl (fun K hK=>?_)
   go_simp
   refine hK.out _ _ ?_
   clear hK K
   refine wpAny_done (by kernel_rfl) ?_ _
   go_wp2_with fail
   go_meet
   exact⟨_,_,(za HY).flags (za HP4)⟩
 rename World=>wk
 obtain⟨vh4,vk4,hZ⟩:=za hcut
 go_wp2_with fail
 go_ret
 exact⟨rfl,Zh.next (m:={ m3 with vh:=vh4,vk:=vk4 }) (za HZA) hk hsz (za HA) (za HM).pe (za HM).pd (za HN3) (by rw[za HTP,Int.add_assoc]) hZ⟩
end
section
open Go.RowKit Go.Maps
theorem aoz {B k:Nat} {w:World} {zb:Nat} {m:ZM} {s:ZS} (h:ZAt B k w zb m s) (hk:k<60) (hT:ErrT w) {wt a b c bits:Int} :
  Calls prog 17 #[.pointer (some ⟨zb,0,none⟩),.agg #[.int .i64 wt,.int .i64 a,.int .i64 b,.int .i64 c,.int .u64 bits]] w fun e w'=>e=.returned (.bool true)∧ZNext B (k+1) zb w w':=by
 by_cases h1:a<1
 ·exact(aql h hT h1).mono fun e w' q=>⟨q.1,h.same hk q.2⟩
 by_cases h2:4<a
 ·exact(aqm h hT h2).mono fun e w' q=>⟨q.1,h.same hk q.2⟩
 by_cases h3:c<0
 ·exact(aqn h hT ⟨by omega,by omega⟩ h3).mono fun e w' q=>⟨q.1,h.same hk q.2⟩
 by_cases h4:1000<c
 ·exact(aqo h hT ⟨by omega,by omega⟩ h4).mono fun e w' q=>⟨q.1,h.same hk q.2⟩
 obtain⟨sz,rfl⟩:∃sz:Nat,c=sz:=⟨c.toNat,by omega⟩
 by_cases h5:s.P.ry<(s.P.Y.length+(zg s.P.Y).length:Int)+1+sz
 ·exact(anm h hT ⟨by omega,by omega⟩ (by omega) h5).mono fun e w' q=>⟨q.1,h.same hk q.2⟩
 ·exact aqp h hk ⟨by omega,by omega⟩ (by omega) (by omega)
theorem ZAt.keep {B k:Nat} {w w':World} {zb:Nat} {m:ZM} {s:ZS} (h:ZAt B k w zb m s) (hb:Below w.heap.size w w'):ZAt B k w' zb m s:=⟨h.hg.keep hb,h.zr.keep hb,h.zi,h.fw⟩
theorem ZNext.from' {B k zb:Nat} {w w1 w':World} (h:ZNext B k zb w1 w') (hb:Below w.heap.size w w1∧B≤w.heap.size∧zb<w.heap.size):ZNext B k zb w w':=by
 obtain⟨m,s,z,q,e⟩:=h
 exact⟨m,s,z,(hb.1.mono hb.2.1).trans q,e.trans (hb.1.cell hb.2.2)⟩
theorem aqq {B k:Nat} {w:World} {zb:Nat} {m:ZM} {s:ZS} (h:ZAt B k w zb m s) (hk:k<60) (hT:ErrT w) {wt a b c bits:Int} (hci:I64 c) :
  Calls prog 8 #[.pointer (some ⟨zb,0,none⟩),.agg #[.int .i64 wt,.int .i64 a,.int .i64 b,.int .i64 c,.int .u64 bits]] w fun e w'=>e=.returned (.bool true)∧ZNext B (k+1) zb w w':=by
 have HBA:Hid (Below w.heap.size w (w.alloc (.cells #[.int .i64 wt,.int .i64 a,.int .i64 b,.int .i64 c,.int .u64 bits] 42))):=(Below.refl _ _).alloc (Nat.le_refl _) _
 have hSB:(w.alloc (.cells #[.int .i64 wt,.int .i64 a,.int .i64 b,.int .i64 c,.int .u64 bits] 42)).heap[w.heap.size]?=some (stB wt a b c bits):=aan _ _
 have c0:=zd hSB 0
 have c1:=zd hSB 1
 have c2:=zd hSB 2
 have c3:=zd hSB 3
 have c4:=zd hSB 4
 obtain⟨gt,ct,hvt⟩:=aaa h.zr.th
 have z1:(w.alloc (.cells #[.int .i64 wt,.int .i64 a,.int .i64 b,.int .i64 c,.int .u64 bits] 42)).cell? ⟨zb,1,none⟩=some (.slice gt s.T.length ct):=by
  rw[←hvt]
  exact aac (zd h.zr.blk 1) _
 have HZ:=zc (h.keep (za HBA))
 have HE:=zc (hT.keep (za HBA))
 have HB:Hid (Below w.heap.size w (w.alloc (.cells #[.int .i64 wt,.int .i64 a,.int .i64 b,.int .i64 c,.int .u64 bits] 42))∧B≤w.heap.size∧zb<w.heap.size):=⟨za HBA,h.hg.hB,hlt h.zr.blk⟩
 have HSA:=zc (h.same hk (za HBA))
 clear h hT hSB hvt
 go_enter func8,ntmps8
 by_cases h0:wt=0
 ·subst h0
  go_wp2_with fail
  refine(aoz (za HZ) hk (za HE)).mono ?_
  rintro e w2 ⟨rfl,hn⟩
  have HN:=zc (hn.from' (za HB))
  clear hn
  go_wp2_with fail
  go_ret
  exact⟨rfl,za HN⟩
 by_cases h1:wt=1
 ·subst h1
  by_cases hl:s.T.length=0
  ·have g:decide ((s.T.length:Int)=0)=true:=by simpa using hl
   go_wp2_with fail
   go_ret
   exact⟨rfl,za HSA⟩
  ·have g:decide ((s.T.length:Int)=0)=false:=by simpa using hl
   go_wp2_with fail
   refine(aqe (za HZ) hk (za HE) (by omega) hci).mono ?_
   rintro e w2 ⟨rfl,hn⟩
   have HN:=zc (hn.from' (za HB))
   clear hn
   go_wp2_with fail
   go_ret
   exact⟨rfl,za HN⟩
 by_cases h2:wt=2
 ·subst h2
  go_wp2_with fail
  refine(ahq (za HZ) hk (za HE) (Or.inl rfl)).mono ?_
  rintro e w2 ⟨rfl,hn⟩
  have HN:=zc (hn.from' (za HB))
  clear hn
  go_wp2_with fail
  go_ret
  exact⟨rfl,za HN⟩
 by_cases h3:wt=3
 ·subst h3
  go_wp2_with fail
  refine(ahq (za HZ) hk (za HE) (Or.inr rfl)).mono ?_
  rintro e w2 ⟨rfl,hn⟩
  have HN:=zc (hn.from' (za HB))
  clear hn
  go_wp2_with fail
  go_ret
  exact⟨rfl,za HN⟩
 have g0:decide (wt=0)=false:=by simpa using h0
 have g1:decide (wt=1)=false:=by simpa using h1
 have g2:decide (wt=2)=false:=by simpa using h2
 have g3:decide (wt=3)=false:=by simpa using h3
 go_wp2_with fail
 go_ret
 exact⟨rfl,za HSA⟩
end
end Go.Proofs.YtpnghfghdbijlaaGreatDoor
