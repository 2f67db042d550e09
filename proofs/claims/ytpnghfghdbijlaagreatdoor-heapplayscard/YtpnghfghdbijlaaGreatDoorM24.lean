/- A part. -/
import Derived.Test.YtpnghfghdbijlaaGreatDoorM23
open Go.Proofs.Tryz
namespace Go.Proofs.YtpnghfghdbijlaaGreatDoor
open Go.RowKit
set_option linter.unusedVariables false
set_option linter.unusedSimpArgs false
set_option maxRecDepth 100000
set_option maxHeartbeats 40000000
section
open Go.RowKit Go.Maps
def Inv1 (w wl:World) (zb gw:Nat) (s:ZS) (wt a b c bits:Int) (gr:Option Addr) (cr:Nat) (f:Value) (rs:List Nat):Prop :=
 ∃ds os,Ch s.T.length s.T.length s.known rs ds∧(os=if wt=2 then ac1 s.T s.here s.T.length else [])∧Ca w.heap.size wl zb w.heap.size (w.heap.size+1) gw wt a b c bits (.slice gr rs.length cr) f (.slice (some ⟨w.heap.size+1+1,0,none⟩) s.T.length s.T.length) rs (aat (rs++os)) ds∧Below w.heap.size w wl
def colA (B k:Nat) (w:World) (zb:Nat) (m:ZM) (s:ZS) (wt a b c bits:Int):{ G:List Nat→Option Addr→Nat→Value→World→Prop // ZAt B k w zb m s→k<60→(wt=2∨wt=3)→(∀gw rs gr cr f wl,(0<s.T.length→m.vw.ownBlock=some gw)→Inv1 w wl zb gw s wt a b c bits gr cr f rs→G rs gr cr f wl)→Calls prog 19 #[.pointer (some ⟨zb,0,none⟩),.agg #[.int .i64 wt,.int .i64 a,.int .i64 b,.int .i64 c,.int .u64 bits]] w fun e w'=>e=.returned (.bool true)∧ZNext B (k+1) zb w w' }:=by
 apply Subtype.mk
 case property =>
  intro h hk hwt hround
  have HR:=zc hround
  clear hround
  obtain⟨gt,ct,hvt⟩:=aaa h.zr.th
  obtain⟨gk,ck,hvk⟩:=aaa h.zr.kr
  obtain⟨gwa,cw,hvw⟩:=aaa h.zr.wr
  obtain⟨gh,ch,hvh⟩:=aaa h.zr.hr
  have hTl:s.T.length≤60:=by have:=h.fw.t;have:=h.fw.k60;omega
  have hWl:s.wh.length=s.T.length:=h.zi.lw
  have hKl:s.known.length=s.T.length:=h.zi.lk
  have hHl:s.here.length=s.T.length:=h.zi.rep.len
  obtain⟨gw,hgw⟩:∃gw,0<s.T.length→gwa=some ⟨gw,0,none⟩∧m.vw.ownBlock=some gw:=by
   by_cases h0:0<s.T.length
   ·obtain⟨v,hv⟩:∃v,s.wh[0]?=some v:=⟨_,List.getElem?_eq_getElem (by omega)⟩
    obtain⟨gw,e,e2,_⟩:=h.zr.whCell hv hvw
    exact⟨gw,fun _=>⟨e,e2⟩⟩
   ·exact⟨0,fun q=>absurd q h0⟩
  have b1:w.cell? ⟨zb,1,none⟩=some (.slice gt s.T.length ct):=by rw[←hvt];exact zd h.zr.blk 1
  have hmk:=run_make_row' (P:=prog) 33 4 (.bool false) 1 underlying33 akh rfl .i64 .i64 s.T.length (by omega) (by omega)
  have hzl:=hlt h.zr.blk
  have HB0:Hid (Below w.heap.size w (((w.alloc (.cells #[.pointer (some ⟨zb,0,none⟩)] 30)).alloc (.cells #[.int .i64 wt,.int .i64 a,.int .i64 b,.int .i64 c,.int .u64 bits] 42)).alloc (.cells (madeCells #[.bool false] s.T.length) 4))):=(((Below.refl _ _).alloc (Nat.le_refl _) _).alloc (by simp) _).alloc (by simp;omega) _
  have HCA:Hid (Ca w.heap.size (((w.alloc (.cells #[.pointer (some ⟨zb,0,none⟩)] 30)).alloc (.cells #[.int .i64 wt,.int .i64 a,.int .i64 b,.int .i64 c,.int .u64 bits] 42)).alloc (.cells (madeCells #[.bool false] s.T.length) 4)) zb w.heap.size (w.heap.size+1) gw wt a b c bits (.slice none 0 0) (.slice none 0 0) (.slice (some ⟨w.heap.size+1+1,0,none⟩) s.T.length s.T.length) [] [] (List.replicate s.T.length false)):=by
   have e1:(w.alloc (.cells #[.pointer (some ⟨zb,0,none⟩)] 30)).heap.size=w.heap.size+1:=by simp
   have e2:((w.alloc (.cells #[.pointer (some ⟨zb,0,none⟩)] 30)).alloc (.cells #[.int .i64 wt,.int .i64 a,.int .i64 b,.int .i64 c,.int .u64 bits] 42)).heap.size=w.heap.size+1+1:=by simp
   refine⟨ac5 _ (ac5 _ (aan _ _)),ac5 _ (ab2 _ _ e1),Nat.le_refl _,by omega,World.ownsRow_nil _ _ _ _,World.ownsRow_nil _ _ _ _,⟨by simp,Or.inr ⟨w.heap.size+1+1,s.T.length,_,by simp,by omega,ab2 _ _ e2,by simp,by unfold maxLen;omega,by rw[size_madeCells];omega,?_⟩⟩⟩
   rw[aot]
   simp
  have HZA:=zc h
  have HVT:=zc hvt
  have HVK:=zc hvk
  have HVW:=zc hvw
  have HVH:=zc hvh
  have HGW:=zc hgw
  have HWL:=zc hWl
  have HKL:=zc hKl
  have HHL:=zc hHl
  have HWT:=zc hwt
  obtain⟨ip,hip,hip0,hip1,hip2⟩:=info_parts infoPV
  obtain⟨ii,hii,hii0,hii1,hii2⟩:=info_parts aei
  have hq:=aco
  clear h hvt hvk hvw hvh hgw hWl hKl hHl hwt
  go_enter func19,ntmps19
  go_wp2_with fail
  go_loopg [5,6,8] s.T.length (fun gg r f i wx=>∃(j:Nat),j≤s.T.length∧gg=s.T.length-j∧i=.int .i64 j∧Hid (∃rs ds,Ca w.heap.size wx zb w.heap.size (w.heap.size+1) gw wt a b c bits r f (.slice (some ⟨w.heap.size+1+1,0,none⟩) s.T.length s.T.length) rs (aat rs) ds∧Ch s.T.length j s.known rs ds∧Below w.heap.size w wx))
  case atStart=>exact⟨0,Nat.zero_le _,by omega,rfl,[],List.replicate s.T.length false,za HCA,⟨fun j hj=>(by cases hj),List.nodup_nil,by simp,fun j hj=>by simp[hj]⟩,za HB0⟩
  case round =>
   obtain⟨j,hj,rfl,rfl,hI⟩:=hrel
   obtain⟨rs,ds,hca,hch,hbl⟩:=za hI
   have hZ:=(za HZA).zr.keep hbl
   have z0:wr.cell? ⟨w.heap.size,0,none⟩=some (.pointer (some ⟨zb,0,none⟩)):=zd hca.bz' 0
   have z1:wr.cell? ⟨zb,1,none⟩=some (.slice gt s.T.length ct):=by rw[←za HVT];exact zd hZ.blk 1
   obtain⟨gr,cr,hvr⟩:=aaa hca.rr
   obtain⟨gf,cf,hvf⟩:=aaa hca.rf
   subst hvr hvf
   have HCA1:=zc hca
   have HCH:=zc hch
   have HBL:=zc hbl
   have HZ:=zc hZ
   clear hca hch hbl hI
   by_cases hlt:j<s.T.length
   ·have hlt2:(j:Int)<(s.T.length:Int):=by omega
    have hlt3:(j:Int)<(s.known.length:Int):=by rw[za HKL];omega
    obtain⟨kn,hkn⟩:∃kn,s.known[j]?=some kn:=⟨_,List.getElem?_eq_getElem (by rw[za HKL];exact hlt)⟩
    obtain⟨gk0,e1,_,r1,_⟩:=aa2 hZ.kr (i:=j) (x:=.bool kn) (by rw[List.getElem?_map,hkn];rfl) (za HVK)
    have z4:wr.cell? ⟨zb,4,none⟩=some (.slice (some ⟨gk0,0,none⟩) s.known.length ck):=by rw[←e1,←za HVK];exact zd hZ.blk 4
    have HKN:=zc hkn
    clear hkn hZ e1
    cases kn with
    | false =>
     go_wp2_with fail
     go_roundg (s.T.length-(j+1))
     case measure=>omega
     case rel=>exact⟨j+1,by omega,rfl,by go_num,rs,ds,za HCA1,(za HCH).next,za HBL⟩
    | true =>
     have b4:wr.cell? ⟨w.heap.size+1,4,none⟩=some (.int .u64 bits):=zd (za HCA1).st 4
     have hcn:=(za HCH).cnt (by omega)
     cases hbt:(Go.bits BinOp.and IntKind.u64 (bits / 2 ^ (j % 64)) 1==1) with
     | false =>
      go_wp2_with fail
      go_roundg (s.T.length-(j+1))
      case measure=>omega
      case rel=>exact⟨j+1,by omega,rfl,by go_num,rs,ds,za HCA1,(za HCH).next,za HBL⟩
     | true =>
      obtain⟨e,_⟩:=za HGW (by omega)
      subst e
      have z2:wr.cell? ⟨zb,2,none⟩=some (.slice (some ⟨gw,0,none⟩) s.wh.length cw):=by rw[←za HVW];exact zd (za HZ).blk 2
      have hlt4:(j:Int)<(s.wh.length:Int):=by rw[za HWL];omega
      have HO1:=zc ((za HCA1).keep (KeepHi.alloc (.cells #[.pointer (some ⟨gw,j*3,none⟩)] 85)))
      have HSZ:=zc (za HBL).size
      go_wp2_with (at_builtin;refine wpList_append_lies _ rfl _ _ _ rfl w.heap.size 85 ip (.pointer none) 1 8 underlying84 hip hip0 hip1 hip2 rfl (by decide) _ rs.length (rs.map fun j=>.pointer (some ⟨gw,j*3,none⟩)) rfl (za HO1).rr ⟨wr.heap.size,0,none⟩ 1 1 [.pointer (some ⟨gw,j*3,none⟩)] rfl rfl (World.news_of_block (aan _ _)) (fun u hu=>by simp at hu;subst hu;rfl) (by decide) ?d3 ?d4 ?d5 _ rfl ?_)
      case d3=>unfold maxLen;omega
      case d4=>omega
      case d5=>have:=za HSZ;simp;omega
      intro g1 c1 w1 hown1 hg1 _ _
      have HCB:=zc ((za HO1).root hown1 (by simp) hg1)
      have HBB:=zc (aex ((za HBL).trans ((Below.refl _ _).alloc (za HBL).size _)) hg1 (fun k hk=>(zp (za HO1).rr k hk).1) (by have:=za HSZ;simp;omega))
      have HO2:=zc ((za HCB).keep (KeepHi.alloc (.cells #[.int .i64 ((j:Int)+1)] 3)))
      have HSZ1:=zc (za HBB).size
      clear hown1 hg1 z0 z1 z2 z4 r1 b4
      go_wp2_with (at_builtin;refine wpList_append_lies _ rfl _ _ _ rfl w.heap.size 3 ii (.int .i64 0) 1 8 underlying49 hii hii0 hii1 hii2 rfl (by decide) _ (aat rs).length ((aat rs).map iv) rfl (za HO2).rf ⟨w1.heap.size,0,none⟩ 1 1 [.int .i64 ((j:Int)+1)] rfl rfl (World.news_of_block (aan _ _)) (fun u hu=>by simp at hu;subst hu;rfl) (by decide) ?e3 ?e4 ?e5 _ rfl ?_)
      case e3=>unfold maxLen;rw[ad1];omega
      case e4=>rw[ad1];omega
      case e5=>have:=za HSZ1;simp;omega
      intro g2 c2 w2 hown2 hg2 _ _
      have HCC:=zc ((za HO2).from' hown2 (by simp) hg2)
      have HBC:=zc (aex ((za HBB).trans ((Below.refl _ _).alloc (za HBB).size _)) hg2 (fun k hk=>(zp (za HO2).rf k hk).1) (by have:=za HSZ1;simp;omega))
      clear hown2 hg2
      obtain⟨g0,e0,_,y1,y2⟩:=aa2 (za HCC).rd (i:=j) (x:=.bool (decide (j∈rs))) (by rw[List.getElem?_map,(za HCH).ds j hlt];rfl) (by rw[(za HCH).len])
      cases e0
      go_wp2_with fail
      go_roundg (s.T.length-(j+1))
      case measure=>omega
      case rel =>
       refine⟨j+1,by omega,rfl,by go_num,rs++[j],ds.set j true,?_,(za HCH).more (za HKN) hlt,(za HBC).trans ⟨rfl,rfl,rfl,by simp[World.setCell],fun k hk=>zo _ (by omega)⟩⟩
       have:=(za HCC).hold (by rw[(za HCH).len]) j true
       rw[aki]
       exact this
   ·obtain rfl:j=s.T.length:=by omega
    have hlt2:decide ((s.T.length:Int)<(s.T.length:Int))=false:=by simp
    have s0:wr.cell? ⟨w.heap.size+1,0,none⟩=some (.int .i64 wt):=zd (za HCA1).st 0
    clear hlt hZ
    go_upto_if 69 with fail
    go_cut [6,10] (fun f i wx=>Hid (∃os,(os=if wt=2 then ac1 s.T s.here s.T.length else [])∧Ca w.heap.size wx zb w.heap.size (w.heap.size+1) gw wt a b c bits (.slice gr rs.length cr) f (.slice (some ⟨w.heap.size+1+1,0,none⟩) s.T.length s.T.length) rs (aat (rs++os)) ds∧Below w.heap.size w wx))
    case first =>
     rcases za HWT with hw2 | hw3
     ·have g2:(wt==2)=true:=by rw[hw2];rfl
      have HW2:=zc hw2
      clear hw2 z1
      go_wp2_with fail
      clear g2
      rename (wt==2)=true=>g3
      clear g3
      go_loopg [6,10] s.T.length (fun gg f i wx=>∃(j:Nat),j≤s.T.length∧gg=s.T.length-j∧i=.int .i64 j∧Hid (Ca w.heap.size wx zb w.heap.size (w.heap.size+1) gw wt a b c bits (.slice gr rs.length cr) f (.slice (some ⟨w.heap.size+1+1,0,none⟩) s.T.length s.T.length) rs (aat (rs++ac1 s.T s.here j)) ds∧Below w.heap.size w wx))
      case atStart=>exact⟨0,Nat.zero_le _,by omega,rfl,by rw[show ac1 s.T s.here 0=[] from rfl,List.append_nil];exact za HCA1,za HBL⟩
      case round =>
       obtain⟨j,hj,rfl,rfl,hI⟩:=hrel
       obtain⟨hca,hbl⟩:=za hI
       have hZ:=(za HZA).zr.keep hbl
       have z0:wr.cell? ⟨w.heap.size,0,none⟩=some (.pointer (some ⟨zb,0,none⟩)):=zd hca.bz' 0
       have z1:wr.cell? ⟨zb,1,none⟩=some (.slice gt s.T.length ct):=by rw[←za HVT];exact zd hZ.blk 1
       obtain⟨gf2,cf2,hvf⟩:=aaa hca.rf
       subst hvf
       have HCA2:=zc hca
       have HBL2:=zc hbl
       have HZ2:=zc hZ
       have HOS:=zc (aou s.T s.here j)
       have hol:=alh s.T s.here j
       have hcn:=(za HCH).cnt hTl
       clear hca hbl hI
       by_cases hlt:j<s.T.length
       ·have hlt2:(j:Int)<(s.T.length:Int):=by omega
        have hlt3:(j:Int)<(s.here.length:Int):=by rw[za HHL];omega
        obtain⟨hr,hhr⟩:∃hr,s.here[j]?=some hr:=⟨_,List.getElem?_eq_getElem (by rw[za HHL];exact hlt)⟩
        obtain⟨t,ht⟩:∃t,s.T[j]?=some t:=⟨_,List.getElem?_eq_getElem hlt⟩
        obtain⟨gh0,e1,_,r1,_⟩:=aa2 hZ.hr (i:=j) (x:=.bool hr) (by rw[List.getElem?_map,hhr];rfl) (za HVH)
        have z3:wr.cell? ⟨zb,3,none⟩=some (.slice (some ⟨gh0,0,none⟩) s.here.length ch):=by rw[←e1,←za HVH];exact zd hZ.blk 3
        obtain⟨tb,vi,hb1,hb2,hb3,hb4⟩:=hZ.thing ht
        obtain⟨gt0,e2,_,r2,_⟩:=aa2 hZ.th (i:=j) (x:=.pointer (some ⟨tb,0,none⟩)) (by rw[List.getElem?_map,hb1];rfl) (za HVT)
        rw[e2] at z1
        have r3:wr.cell? ⟨tb,3,none⟩=some (.bool t.old):=zd hb3 3
        have HOS2:Hid (ac1 s.T s.here (j+1)=ac1 s.T s.here j++if hr&&t.old then [j] else []):=by
         have:=za HOS
         rw[hhr,ht] at this
         show ac1 s.T s.here (j+1)=_
         cases hr <;> simpa using this
        clear hhr ht hb1 hb2 hb3 hb4 hZ e1 e2 HOS
        cases hr with
        | false =>
         go_wp2_with fail
         go_roundg (s.T.length-(j+1))
         case measure=>omega
         case rel=>exact⟨j+1,by omega,rfl,by go_num,by rw[za HOS2,if_neg (by simp),List.append_nil];exact za HCA2,za HBL2⟩
        | true =>
         cases hto:t.old with
         | false =>
          rw[hto] at r3 HOS2
          go_wp2_with fail
          go_roundg (s.T.length-(j+1))
          case measure=>omega
          case rel=>exact⟨j+1,by omega,rfl,by go_num,by rw[za HOS2,if_neg (by simp),List.append_nil];exact za HCA2,za HBL2⟩
         | true =>
          rw[hto] at r3 HOS2
          have HO2:=zc ((za HCA2).keep (KeepHi.alloc (.cells #[.int .i64 ((j:Int)+1)] 3)))
          have HSZ1:=zc (za HBL2).size
          go_wp2_with (at_builtin;refine wpList_append_lies _ rfl _ _ _ rfl w.heap.size 3 ii (.int .i64 0) 1 8 underlying49 hii hii0 hii1 hii2 rfl (by decide) _ (aat (rs++ac1 s.T s.here j)).length ((aat (rs++ac1 s.T s.here j)).map iv) rfl (za HO2).rf ⟨wr.heap.size,0,none⟩ 1 1 [.int .i64 ((j:Int)+1)] rfl rfl (World.news_of_block (aan _ _)) (fun u hu=>by simp at hu;subst hu;rfl) (by decide) ?f3 ?f4 ?f5 _ rfl ?_)
          case f3=>unfold maxLen;rw[ad1,List.length_append];omega
          case f4=>rw[ad1,List.length_append];omega
          case f5=>have:=za HSZ1;simp;omega
          intro g2 c2 w2 hown2 hg2 _ _
          have HCC:=zc ((za HO2).from' hown2 (by simp) hg2)
          have HBC:=zc (aex ((za HBL2).trans ((Below.refl _ _).alloc (za HBL2).size _)) hg2 (fun k hk=>(zp (za HO2).rf k hk).1) (by have:=za HSZ1;simp;omega))
          clear hown2 hg2
          go_wp2_with fail
          go_roundg (s.T.length-(j+1))
          case measure=>omega
          case rel =>
           refine⟨j+1,by omega,rfl,by go_num,?_,za HBC⟩
           rw[za HOS2,if_pos (by rfl),←List.append_assoc,aki]
           exact za HCC
       ·obtain rfl:j=s.T.length:=by omega
        have hlt2:decide ((s.T.length:Int)<(s.T.length:Int))=false:=by simp
        clear hZ
        go_wp2_with fail
        go_meet
        exact⟨_,(if_pos (za HW2)).symm,za HCA2,za HBL2⟩
     ·have g2:(wt==2)=false:=by rw[hw3];rfl
      have HW3:=zc hw3
      clear hw3 z1
      go_wp2_with fail
      go_meet
      exact⟨[],(if_neg (by rw[za HW3];decide)).symm,by rw[List.append_nil];exact za HCA1,za HBL⟩
    rename World=>wl
    obtain⟨os,hos,hca,hbl⟩:=za hcut
    rename ∀(a:Act) (w:World),_→_=>aK
    refine aK _ _ ?_
    show Code.wp _ _ (bodyPost prog Tryz.f19 fun e w'=>e=.returned (.bool true)∧ZNext B (k+1) zb w w') _ _
    revert u279 u278 u277 u276 u275 u274 u273 u272 u271 u270 u269 u268 u267 u266 u265 u264 u263 u262 u261 u260 u259 u258 u257 u256 u255 u254 u253 u252 u251 u250 u249 u248 u247 u246 u245 u244 u243 u242 u241 u240 u239 u238 u237 u236 u235 u234 u233 u232 u231 u230 u229 u228 u227 u226 u225 u224 u223 u222 u221 u220 u219 u218 u217 u216 u215 u214 u213 u212 u211 u210 u209 u208 u207 u206 u205 u204 u203 u202 u201 u200 u199 u198 u197 u196 u195 u194 u193 u192 u191 u190 u189 u188 u187 u186 u185 u184 u183 u182 u181 u180 u179 u178 u177 u176 u175 u174 u173 u172 u171 u170 u169 u168 u167 u166 u165 u164 u163 u162 u161 u160 u159 u158 u157 u156 u155 u154 u153 u152 u151 u150 u149 u148 u147 u146 u145 u144 u143 u142 u141 u140 u139 u138 u137 u136 u135 u134 u133 u132 u131 u130 u129 u128 u127 u126 u125 u124 u123 u122 u121 u120 u119 u118 u117 u116 u115 u114 u113 u112 u111 u110 u109 u108 u107 u106 u105 u104 u103 u102 u101 u100 u99 u98 u97 u96 u95 u94 u93 u92 u91 u90 u89 u88 u87 u86 u85 u84 u83 u82 u81 u80 u79 u78 u77 u76 u75 u74 u73 u72 u71 u70 u69 u68 u67 u66 u65 u64 u63 u62 u61 u60 u59 u58 u57 u56 u55 u54 u53 u52 u51 u50 u49 u48 u47 u46 u45 u44 u43 u42 u41 u40 u39 u38 u37 u36 u35 u34 u33 u32 u31 u30 u29 u28 u27 u26 u25 u24 u23 u22 u21 u20 u19 u18 u10
    exact za HR gw rs gr cr u6 wl (fun h0=>(za HGW h0).2) ⟨ds,os,za HCH,hos,hca,hbl⟩
end
section
open Go.RowKit Go.Maps
def Inv2 (B k:Nat) (w wy:World) (zb gw:Nat) (s:ZS) (m:ZM) (wt a b c bits:Int) (gr:Option Addr) (cr:Nat) (f:Value) (rs:List Nat) (lb:Nat):Prop :=
 ∃ds os sm m2 P2 D2 here2 ad2 xw,Ch s.T.length s.T.length s.known rs ds∧Cm B k w wy zb s m m2 P2 D2 here2 ad2 rs (abv s.T (aat (rs++os))) xw { aau s.P with mn:=P2.minors,mj:=P2.majors }∧Ca w.heap.size wy zb w.heap.size (w.heap.size+1) gw wt a b c bits (.slice gr rs.length cr) f (.slice (some ⟨w.heap.size+1+1,0,none⟩) s.T.length s.T.length) rs (aat (rs++os)) ds∧Cb w.heap.size wy lb sm (abp (s.T.map Th.is) (aat (rs++os)))
structure Zq2 (B:Nat) (X:World) (zb:Nat) (mx:ZM) (Nx:ZN) (s:ZS) (m:ZM) (xx:List Value):Prop where
 nw:∃nw,ZQ B X zb mx Nx s.T nw xx s.here s.known
 sm:SameM m mx
theorem ank {B k:Nat} {w X:World} {zb bz lb sm:Nat} {m mx:ZM} {s:ZS} {Nx:ZN} {xx:List Value} {fr:List Int} (h:ZAt B k w zb m s) {gt gh:Option Addr} {ct ch B0:Nat} (hvt:m.vt=.slice gt s.T.length ct) (hvh:m.vh=.slice gh s.here.length ch) (hz:Zq2 B X zb mx Nx s m xx) (hb:X.cell? ⟨bz,0,none⟩=some (.pointer (some ⟨zb,0,none⟩))) (hc:Cb B0 X lb sm (abp (s.T.map Th.is) fr)) :
  Calls prog 36 #[.func (.func 40) #[] #[.pointer (some ⟨lb,0,none⟩)],.pointer (some ⟨bz,0,none⟩)] X fun e w'=>e=.returned (.int .i64 (abe (abv s.T fr) 0 s.here (s.T.map Th.is):Nat))∧w'=X:=by
 obtain⟨nw,z⟩:=hz.nw
 have hT:=h.fw.t
 have hk:=h.fw.k60
 have e1:(s.T.map Th.is).length=s.T.length:=List.length_map ..
 exact am6 (z.zcAt hb h.zi.rep.len (by rw[hz.sm.vt];exact hvt) (by rw[hz.sm.vh];exact hvh)) (fun L hL=>by
  obtain⟨t,ht,rfl⟩:=List.mem_map.1 hL
  have:=h.zi.sz t ht
  omega) (by omega) (fun i hi=>in2_any (zd hc.bk 0) hc.se (i:=(i:Int)) ⟨by omega,by omega⟩)
def colB (B k:Nat) (w:World) (zb:Nat) (m:ZM) (s:ZS) (wt a b c bits:Int):{ G:List Nat→Option Addr→Nat→World→Value→Value→Value→Nat→Prop // ZAt B k w zb m s→k<60→ErrT w→wt=2→(∀gw rs gr cr f lb e1 e2 wy,(0<s.T.length→m.vw.ownBlock=some gw)→Inv2 B k w wy zb gw s m wt a b c bits gr cr f rs lb→G rs gr cr wy e1 e2 f lb)→∀gw rs gr cr f wl,(0<s.T.length→m.vw.ownBlock=some gw)→Inv1 w wl zb gw s wt a b c bits gr cr f rs→(colA B k w zb m s wt a b c bits).1 rs gr cr f wl }:=by
 apply Subtype.mk
 case property =>
  intro h hk hT hwt hround gw rs gr cr f wl hgw hinv
  have HR:=zc hround
  have HZA:=zc h
  have HT:=zc hT
  have HWT:=zc hwt
  have HGW:=zc hgw
  obtain⟨ds,os,hch,hos,hca,hbl⟩:=hinv
  obtain⟨gt,ct,hvt⟩:=aaa h.zr.th
  obtain⟨gh,ch,hvh⟩:=aaa h.zr.hr
  have hTl:s.T.length≤60:=by have:=h.fw.t;have:=h.fw.k60;omega
  have HHL:=zc h.zi.rep.len
  have HVT:=zc hvt
  have HVH:=zc hvh
  have hzl:=hlt h.zr.blk
  obtain⟨gf2,cf2,hvf⟩:=aaa hca.rf
  subst hvf
  have hZ:=(za HZA).zr.keep hbl
  have z0:wl.cell? ⟨w.heap.size,0,none⟩=some (.pointer (some ⟨zb,0,none⟩)):=zd hca.bz' 0
  have z1:wl.cell? ⟨zb,1,none⟩=some (.slice gt s.T.length ct):=by rw[←za HVT];exact zd hZ.blk 1
  have HOS:=zc hos
  have HCH:=zc hch
  have HCA2:=zc hca
  have HBL2:=zc hbl
  have hcn:=(za HCH).cnt hTl
  have HLD:=zc (ai9 (za HZA) hZ (za HVT) hca (za HCH) hos hTl)
  have hq:=aco
  have hqe:=ajo
  clear hca hbl hos hZ h hT hwt hround hgw hch hvt hvh
  delta colA
  intro u10 u18 u19 u20 u21 u22 u23 u24 u25 u26 u27 u28 u29 u30 u31 u32 u33 u34 u35 u36 u37 u38 u39 u40 u41 u42 u43 u44 u45 u46 u47 u48 u49 u50 u51 u52 u53 u54 u55 u56 u57 u58 u59 u60 u61 u62 u63 u64 u65 u66 u67 u68 u69 u70 u71 u72 u73 u74 u75 u76 u77 u78 u79 u80 u81 u82 u83 u84 u85 u86 u87 u88 u89 u90 u91 u92 u93 u94 u95 u96 u97 u98 u99 u100 u101 u102 u103 u104 u105 u106 u107 u108 u109 u110 u111 u112 u113 u114 u115 u116 u117 u118 u119 u120 u121 u122 u123 u124 u125 u126 u127 u128 u129 u130 u131 u132 u133 u134 u135 u136 u137 u138 u139 u140 u141 u142 u143 u144 u145 u146 u147 u148 u149 u150 u151 u152 u153 u154 u155 u156 u157 u158 u159 u160 u161 u162 u163 u164 u165 u166 u167 u168 u169 u170 u171 u172 u173 u174 u175 u176 u177 u178 u179 u180 u181 u182 u183 u184 u185 u186 u187 u188 u189 u190 u191 u192 u193 u194 u195 u196 u197 u198 u199 u200 u201 u202 u203 u204 u205 u206 u207 u208 u209 u210 u211 u212 u213 u214 u215 u216 u217 u218 u219 u220 u221 u222 u223 u224 u225 u226 u227 u228 u229 u230 u231 u232 u233 u234 u235 u236 u237 u238 u239 u240 u241 u242 u243 u244 u245 u246 u247 u248 u249 u250 u251 u252 u253 u254 u255 u256 u257 u258 u259 u260 u261 u262 u263 u264 u265 u266 u267 u268 u269 u270 u271 u272 u273 u274 u275 u276 u277 u278 u279
  go_wp2_with fail
  refine(za HLD).mono ?_
  rintro e w2 ⟨sm,rfl,hsm,hseen,hsn,hb2⟩
  have HB3:=zc ((za HBL2).trans (hb2.mono (za HBL2).size))
  obtain⟨wz,hwz⟩:∃wz,w2.alloc (.cells #[.map (some sm)] 88)=wz:=⟨_,rfl⟩
  have HWZ:=zc hwz
  have HBZ:Hid (Below w.heap.size w wz):=by
   rw[←hwz]
   exact(za HB3).trans ((Below.refl _ _).alloc (za HB3).size _)
  have hk2:KeepHi w.heap.size wl wz:=by
   rw[←hwz]
   exact(KeepHi.below hb2).trans (KeepHi.alloc _) hb2.size
  have HCZ:=zc ((za HCA2).keep hk2)
  have HCB:Hid (Cb w.heap.size wz w2.heap.size sm (abp (s.T.map Th.is) (aat (rs++os)))):=by
   have e1:w.heap.size≤wl.heap.size:=(za HBL2).size
   have e2:w.heap.size≤w2.heap.size:=(za HB3).size
   rw[←hwz]
   exact⟨aan _ _,hseen.keep (((Below.refl _ _).alloc (Nat.le_refl _) _).block _ hseen.lt),e2,by omega⟩
  have s0:wz.cell? ⟨w.heap.size+1,0,none⟩=some (.int .i64 wt):=zd (za HCZ).st 0
  clear hwz hk2 hsm hseen hsn hb2 z0 z1
  go_upto_if 111 with (rw[za HWZ])
  have hZ:=(za HZA).zr.keep (za HBZ)
  have HG3:=zc ((za HZA).hg.keep (za HBZ))
  have z0:wz.cell? ⟨w.heap.size,0,none⟩=some (.pointer (some ⟨zb,0,none⟩)):=zd (za HCZ).bz' 0
  have y0:wz.cell? ⟨zb,0,none⟩=some (.pointer (some ⟨m.hp,0,none⟩)):=zd hZ.blk 0
  have y5:wz.cell? ⟨zb,5,none⟩=some (.int .i64 s.P.ro):=zd hZ.blk 5
  have HRF:=zc (aja (za HZA) (za HBZ) (za HCZ) (za HCH) hcn (za HGW) rfl)
  have hll:(abn gw s.ad rs).length=rs.length:=by simp[abn]
  obtain⟨tp,htp⟩:∃tp:Nat,s.P.Y.length+(zg s.P.Y).length=tp:=⟨_,rfl⟩
  obtain⟨op,hop⟩:∃op:Nat,s.P.O.length+(zg s.P.O).length=op:=⟨_,rfl⟩
  have y7:wz.cell? ⟨zb,7,none⟩=some (.int .i64 (tp:Int)):=by rw[←htp];exact zd hZ.blk 7
  have y8:wz.cell? ⟨zb,8,none⟩=some (.int .i64 (op:Int)):=by rw[←hop];exact zd hZ.blk 8
  have hbd:tp≤100000∧op≤100000:=by
   have h1:=(za HZA).fw.k60
   have h2:=(za HZA).fw.c
   have h3:=(za HZA).fw.f
   omega
  have HTP:=zc htp
  have HOP:=zc hop
  have HLL:=zc hll
  have HZ3:=zc hZ
  have w1:IntKind.i64.wrap ((op:Int)+(tp:Int))=(op:Int)+(tp:Int):=aav (by omega) (by omega)
  clear hZ hll htp hop
  go_cut [12,13] (fun e1 e2 wy=>Hid (∃m2 P2 D2 here2 ad2 xw,Cm B k w wy zb s m m2 P2 D2 here2 ad2 rs (abv s.T (aat (rs++os))) xw { aau s.P with mn:=P2.minors,mj:=P2.majors }∧Ca w.heap.size wy zb w.heap.size (w.heap.size+1) gw wt a b c bits (.slice gr rs.length cr) (.slice gf2 (aat (rs++os)).length cf2) (.slice (some ⟨w.heap.size+1+1,0,none⟩) s.T.length s.T.length) rs (aat (rs++os)) ds∧Cb w.heap.size wy w2.heap.size sm (abp (s.T.map Th.is) (aat (rs++os)))))
  case first =>
   have hw2:=za HWT
   ·have g2:(wt==2)=true:=by rw[hw2];rfl
    have HW2:=zc hw2
    clear hw2
    go_wp2_with fail
    by_cases hfit:(op:Int)+(tp:Int)≤s.P.ro
    ·have n3:¬s.P.ro<(op:Int)+(tp:Int):=by omega
     have HMN:=zc (aoc (za HG3) (za HZA).zi.nt.nr (za HZA).zi.nt.nd (by have:=(za HZA).fw.nt;omega) (za HRF) cr (by have:=(za HZA).fw.n;omega) (by have:=za HTP;have:=za HOP;omega))
     rw[za HLL] at HMN
     clear hfit
     refine(za HMN).mono ?_
     rintro e w3 ⟨rfl,hmn⟩
     dsimp only
     obtain⟨m2,P2,D2,here2,ad2,xw,hcm,hm1,hm2,hkh⟩:=aqg (za HZA) hk (za HBZ) (za HCH) (za HGW) hmn
     have q0:w3.cell? ⟨w.heap.size,0,none⟩=some (.pointer (some ⟨zb,0,none⟩)):=zd ((za HCZ).keep hkh).bz' 0
     have q5:w3.cell? ⟨zb,5,none⟩=some (.int .i64 s.P.ro):=zd hcm.zk.zr.blk 5
     have q7:w3.cell? ⟨zb,7,none⟩=some (.int .i64 (tp:Int)):=by rw[←za HTP];exact zd hcm.zk.zr.blk 7
     have q8:w3.cell? ⟨zb,8,none⟩=some (.int .i64 (op:Int)):=by rw[←za HOP];exact zd hcm.zk.zr.blk 8
     have q9:w3.cell? ⟨zb,9,none⟩=some (.int .i64 s.P.minors):=zd hcm.zk.zr.blk 9
     have f9:w3.frozen? ⟨zb,9,none⟩=false:=zt hcm.zk.zr.blk 9
     have HCM:=zc hcm
     have HM1:=zc hm1
     have HM2:=zc hm2
     have HKH:=zc hkh
     clear hmn hcm hm1 hm2 hkh HMN z0 y0 s0 y5 y7 y8
     go_wp2_with fail
     go_cut [131] (fun p wd=>p=.bool false∧wd=w3.drew)
     case first =>
      refine wp_region_held_drew (S:=fun w'=>w'.cell? ⟨w.heap.size,0,none⟩=some (.pointer (some ⟨zb,0,none⟩))∧w'.cell? ⟨zb,8,none⟩=some (.int .i64 (op:Int))∧w'.cell? ⟨zb,7,none⟩=some (.int .i64 (tp:Int))∧w'.cell? ⟨zb,5,none⟩=some (.int .i64 s.P.ro)) (by kernel_rfl) ⟨q0,q8,q7,q5⟩ (fun hHeld=>?_)
      refine tka 0 118 rfl ?_
      refine tka 1 119 rfl ?_
      refine tka 2 120 rfl ?_
      refine tka 3 121 rfl ?_
      refine tka 4 122 rfl ?_
      refine tka 5 123 rfl ?_
      refine tka 6 124 rfl ?_
      refine tka 7 125 rfl ?_
      refine tka 8 126 rfl ?_
      refine tka 9 127 rfl ?_
      simp only[sA,sB,sC]
      refine tka 10 128 rfl ?_
      refine tka 11 129 rfl ?_
      refine tka 12 130 rfl ?_
      refine tka 13 131 rfl ?_
      simp only[sA,sB,sC]
      refine wpAnyH_done (by kernel_rfl) ?_ _
      go_wp2_with fail
      go_meet
      exact⟨by simp,rfl⟩
     rename World=>wd
     obtain⟨rfl,hd⟩:=hcut
     have q0:wd.cell? ⟨w.heap.size,0,none⟩=some (.pointer (some ⟨zb,0,none⟩)):=by rw[hd];exact q0
     have q9:wd.cell? ⟨zb,9,none⟩=some (.int .i64 s.P.minors):=by rw[hd];exact q9
     have f9:wd.frozen? ⟨zb,9,none⟩=false:=by rw[hd];exact f9
     have HD:=zc hd
     clear hd
     go_wp2_with fail
     go_meet
     have e:=za HD
     subst e
     refine⟨m2,P2,D2,here2,ad2,xw,?_,((za HCZ).keep (za HKH)).keep (KeepHi.drew.trans (KeepHi.set hzl) (Nat.le_refl _)),((za HCB).keep (za HKH)).keep (KeepHi.drew.trans (KeepHi.set hzl) (Nat.le_refl _))⟩
     have hc:=za HCM
     have ho:os=ac1 s.T s.here s.T.length:=by rw[za HOS,if_pos (za HW2)]
     rw[ho]
     exact⟨(hc.zk.keep (Below.refl _ _).drew).num 9 _ (by rw[za HM1,za HM2];rfl),hc.xw',hc.pc,hc.fw,hc.sm,hc.rr⟩
    ·have n3:s.P.ro<(op:Int)+(tp:Int):=by omega
     have HMN:=zc (anb (za HG3) (.slice gr rs.length cr) (by have:=za HTP;have:=za HOP;omega))
     clear hfit
     refine(za HMN).mono ?_
     rintro e w3 ⟨rfl,hb3⟩
     dsimp only
     have HB4:=zc ((za HBZ).trans (hb3.mono (za HBZ).size))
     have q0:=zj hb3 z0 (ze z0)
     have q5:=zj hb3 y5 (ze y5)
     have q7:=zj hb3 y7 (ze y7)
     have q8:=zj hb3 y8 (ze y8)
     clear hb3 HMN z0 y0 s0 y5 y7 y8
     go_wp2_with fail
     go_cut [131] (fun p wd=>p=.bool true∧wd=w3.drew)
     case first =>
      refine wp_region_held_drew (S:=fun w'=>w'.cell? ⟨w.heap.size,0,none⟩=some (.pointer (some ⟨zb,0,none⟩))∧w'.cell? ⟨zb,8,none⟩=some (.int .i64 (op:Int))∧w'.cell? ⟨zb,7,none⟩=some (.int .i64 (tp:Int))∧w'.cell? ⟨zb,5,none⟩=some (.int .i64 s.P.ro)) (by kernel_rfl) ⟨q0,q8,q7,q5⟩ (fun hHeld=>?_)
      refine tka 0 118 rfl ?_
      refine tka 1 119 rfl ?_
      refine tka 2 120 rfl ?_
      refine tka 3 121 rfl ?_
      refine tka 4 122 rfl ?_
      refine tka 5 123 rfl ?_
      refine tka 6 124 rfl ?_
      refine tka 7 125 rfl ?_
      refine tka 8 126 rfl ?_
      refine tka 9 127 rfl ?_
      simp only[sA,sB,sC]
      refine tka 10 128 rfl ?_
      refine tka 11 129 rfl ?_
      refine tka 12 130 rfl ?_
      refine tka 13 131 rfl ?_
      simp only[sA,sB,sC]
      refine wpAnyH_done (by kernel_rfl) ?_ _
      go_wp2_with fail
      go_meet
      exact⟨by simp,rfl⟩
     rename World=>wd
     obtain⟨rfl,hd⟩:=hcut
     subst hd
     go_wp2_with fail
     refine(ab4 (v:=.iface 29 (.int .i64 12)) (n:=12) (p:=-1) (Or.inr (Or.inl ⟨rfl,rfl⟩)) (ErrT.keep (za HT) ((za HB4).drew)) 12).mono ?_
     rintro e w5 ⟨rfl,hb5⟩
     dsimp only
     go_wp2_with fail
     go_ret
     exact⟨rfl,(za HZA).same hk ((za HB4).trans (((Below.refl _ _).drew.trans hb5).mono (za HB4).size))⟩
  rename World=>wy
  obtain⟨m2,P2,D2,here2,ad2,xw,hcm,hca,hcb⟩:=za hcut
  rename ∀(a:Act) (w:World),_→_=>aK
  refine aK _ _ ?_
  show Code.wp _ _ (bodyPost prog Tryz.f19 fun e w'=>e=.returned (.bool true)∧ZNext B (k+1) zb w w') _ _
  generalize hfv:Value.slice gf2 (aat (rs++os)).length cf2=fv at hca ⊢
  generalize hlb:w2.heap.size=lb at hcb ⊢
  clear hfv hlb
  revert u279 u278 u277 u276 u275 u274 u273 u272 u271 u270 u269 u268 u267 u266 u265 u264 u263 u262 u261 u260 u259 u258 u257 u256 u255 u254 u253 u252 u251 u250 u249 u248 u247 u246 u245 u244 u243 u242 u241 u240 u239 u238 u237 u236 u235 u234 u233 u232 u231 u230 u229 u228 u227 u226 u225 u224 u223 u222 u221 u220 u219 u218 u217 u216 u215 u214 u213 u212 u211 u210 u209 u208 u207 u206 u205 u204 u203 u202 u201 u200 u199 u198 u197 u196 u195 u194 u193 u192 u191 u190 u189 u188 u187 u186 u185 u184 u183 u182 u181 u180 u179 u178 u177 u176 u175 u174 u173 u172 u171 u170 u169 u168 u167 u166 u165 u164 u163 u162 u161 u160 u159 u158 u157 u156 u155 u154 u153 u152 u151 u150 u149 u148 u147 u146 u145 u144 u143 u142 u141 u140 u139 u138 u137 u136 u135 u134 u133 u132 u131 u130 u129 u128 u127 u126 u125 u124 u123 u122 u121 u120 u119 u118 u117 u116 u115 u114 u113 u112 u111 u110 u109 u108 u107 u106 u105 u104 u103 u102 u101 u100 u99 u98 u97 u96 u95 u94 u93 u92 u91 u90 u89 u88 u87 u86 u85 u84 u83 u82 u81 u80 u79 u78 u77 u76 u75 u74 u73 u72 u71 u70 u69 u68 u67 u66 u65 u64 u63 u62 u61 u60 u59 u58 u57 u56 u55 u54 u53 u52 u51 u50 u49 u48 u47 u46 u45 u44 u43 u42 u41 u40 u39 u38 u37 u36 u35 u34 u33 u32 u31 u30 u29 u28 u27 u26 u25 u24 u23 u22 u21 u20 u19 u18 u4 u10
  exact za HR gw rs gr cr fv lb u12 u13 wy (za HGW) ⟨ds,os,sm,m2,P2,D2,here2,ad2,xw,za HCH,hcm,hca,hcb⟩
end
section
open Go.RowKit Go.Maps
theorem colB3 (B k:Nat) (w:World) (zb:Nat) (m:ZM) (s:ZS) (wt a b c bits:Int):ZAt B k w zb m s→k<60→ErrT w→wt=3→(∀gw rs gr cr f lb e1 e2 wy,(0<s.T.length→m.vw.ownBlock=some gw)→Inv2 B k w wy zb gw s m wt a b c bits gr cr f rs lb→(colB B k w zb m s wt a b c bits).1 rs gr cr wy e1 e2 f lb)→∀gw rs gr cr f wl,(0<s.T.length→m.vw.ownBlock=some gw)→Inv1 w wl zb gw s wt a b c bits gr cr f rs→(colA B k w zb m s wt a b c bits).1 rs gr cr f wl:=by
 intro h hk hT hwt hround gw rs gr cr f wl hgw hinv
 have HR:=zc hround
 have HZA:=zc h
 have HT:=zc hT
 have HWT:=zc hwt
 have HGW:=zc hgw
 obtain⟨ds,os,hch,hos,hca,hbl⟩:=hinv
 obtain⟨gt,ct,hvt⟩:=aaa h.zr.th
 obtain⟨gh,ch,hvh⟩:=aaa h.zr.hr
 have hTl:s.T.length≤60:=by have:=h.fw.t;have:=h.fw.k60;omega
 have HHL:=zc h.zi.rep.len
 have HVT:=zc hvt
 have HVH:=zc hvh
 have hzl:=hlt h.zr.blk
 obtain⟨gf2,cf2,hvf⟩:=aaa hca.rf
 subst hvf
 have hZ:=(za HZA).zr.keep hbl
 have z0:wl.cell? ⟨w.heap.size,0,none⟩=some (.pointer (some ⟨zb,0,none⟩)):=zd hca.bz' 0
 have z1:wl.cell? ⟨zb,1,none⟩=some (.slice gt s.T.length ct):=by rw[←za HVT];exact zd hZ.blk 1
 have HOS:=zc hos
 have HCH:=zc hch
 have HCA2:=zc hca
 have HBL2:=zc hbl
 have hcn:=(za HCH).cnt hTl
 have HLD:=zc (ai9 (za HZA) hZ (za HVT) hca (za HCH) hos hTl)
 have hq:=aco
 have hqe:=ajo
 clear hca hbl hos hZ h hT hwt hround hgw hch hvt hvh
 delta colA
 intro u10 u18 u19 u20 u21 u22 u23 u24 u25 u26 u27 u28 u29 u30 u31 u32 u33 u34 u35 u36 u37 u38 u39 u40 u41 u42 u43 u44 u45 u46 u47 u48 u49 u50 u51 u52 u53 u54 u55 u56 u57 u58 u59 u60 u61 u62 u63 u64 u65 u66 u67 u68 u69 u70 u71 u72 u73 u74 u75 u76 u77 u78 u79 u80 u81 u82 u83 u84 u85 u86 u87 u88 u89 u90 u91 u92 u93 u94 u95 u96 u97 u98 u99 u100 u101 u102 u103 u104 u105 u106 u107 u108 u109 u110 u111 u112 u113 u114 u115 u116 u117 u118 u119 u120 u121 u122 u123 u124 u125 u126 u127 u128 u129 u130 u131 u132 u133 u134 u135 u136 u137 u138 u139 u140 u141 u142 u143 u144 u145 u146 u147 u148 u149 u150 u151 u152 u153 u154 u155 u156 u157 u158 u159 u160 u161 u162 u163 u164 u165 u166 u167 u168 u169 u170 u171 u172 u173 u174 u175 u176 u177 u178 u179 u180 u181 u182 u183 u184 u185 u186 u187 u188 u189 u190 u191 u192 u193 u194 u195 u196 u197 u198 u199 u200 u201 u202 u203 u204 u205 u206 u207 u208 u209 u210 u211 u212 u213 u214 u215 u216 u217 u218 u219 u220 u221 u222 u223 u224 u225 u226 u227 u228 u229 u230 u231 u232 u233 u234 u235 u236 u237 u238 u239 u240 u241 u242 u243 u244 u245 u246 u247 u248 u249 u250 u251 u252 u253 u254 u255 u256 u257 u258 u259 u260 u261 u262 u263 u264 u265 u266 u267 u268 u269 u270 u271 u272 u273 u274 u275 u276 u277 u278 u279
 go_wp2_with fail
 refine(za HLD).mono ?_
 rintro e w2 ⟨sm,rfl,hsm,hseen,hsn,hb2⟩
 have HB3:=zc ((za HBL2).trans (hb2.mono (za HBL2).size))
 obtain⟨wz,hwz⟩:∃wz,w2.alloc (.cells #[.map (some sm)] 88)=wz:=⟨_,rfl⟩
 have HWZ:=zc hwz
 have HBZ:Hid (Below w.heap.size w wz):=by
  rw[←hwz]
  exact(za HB3).trans ((Below.refl _ _).alloc (za HB3).size _)
 have hk2:KeepHi w.heap.size wl wz:=by
  rw[←hwz]
  exact(KeepHi.below hb2).trans (KeepHi.alloc _) hb2.size
 have HCZ:=zc ((za HCA2).keep hk2)
 have HCB:Hid (Cb w.heap.size wz w2.heap.size sm (abp (s.T.map Th.is) (aat (rs++os)))):=by
  have e1:w.heap.size≤wl.heap.size:=(za HBL2).size
  have e2:w.heap.size≤w2.heap.size:=(za HB3).size
  rw[←hwz]
  exact⟨aan _ _,hseen.keep (((Below.refl _ _).alloc (Nat.le_refl _) _).block _ hseen.lt),e2,by omega⟩
 have s0:wz.cell? ⟨w.heap.size+1,0,none⟩=some (.int .i64 wt):=zd (za HCZ).st 0
 clear hwz hk2 hsm hseen hsn hb2 z0 z1
 go_upto_if 111 with (rw[za HWZ])
 have hZ:=(za HZA).zr.keep (za HBZ)
 have HG3:=zc ((za HZA).hg.keep (za HBZ))
 have z0:wz.cell? ⟨w.heap.size,0,none⟩=some (.pointer (some ⟨zb,0,none⟩)):=zd (za HCZ).bz' 0
 have y0:wz.cell? ⟨zb,0,none⟩=some (.pointer (some ⟨m.hp,0,none⟩)):=zd hZ.blk 0
 have y5:wz.cell? ⟨zb,5,none⟩=some (.int .i64 s.P.ro):=zd hZ.blk 5
 have HRF:=zc (aja (za HZA) (za HBZ) (za HCZ) (za HCH) hcn (za HGW) rfl)
 have hll:(abn gw s.ad rs).length=rs.length:=by simp[abn]
 obtain⟨tp,htp⟩:∃tp:Nat,s.P.Y.length+(zg s.P.Y).length=tp:=⟨_,rfl⟩
 obtain⟨op,hop⟩:∃op:Nat,s.P.O.length+(zg s.P.O).length=op:=⟨_,rfl⟩
 have y7:wz.cell? ⟨zb,7,none⟩=some (.int .i64 (tp:Int)):=by rw[←htp];exact zd hZ.blk 7
 have y8:wz.cell? ⟨zb,8,none⟩=some (.int .i64 (op:Int)):=by rw[←hop];exact zd hZ.blk 8
 have hbd:tp≤100000∧op≤100000:=by
  have h1:=(za HZA).fw.k60
  have h2:=(za HZA).fw.c
  have h3:=(za HZA).fw.f
  omega
 have HTP:=zc htp
 have HOP:=zc hop
 have HLL:=zc hll
 have HZ3:=zc hZ
 have w1:IntKind.i64.wrap ((op:Int)+(tp:Int))=(op:Int)+(tp:Int):=aav (by omega) (by omega)
 clear hZ hll htp hop
 go_cut [12,13] (fun e1 e2 wy=>Hid (∃m2 P2 D2 here2 ad2 xw,Cm B k w wy zb s m m2 P2 D2 here2 ad2 rs (abv s.T (aat (rs++os))) xw { aau s.P with mn:=P2.minors,mj:=P2.majors }∧Ca w.heap.size wy zb w.heap.size (w.heap.size+1) gw wt a b c bits (.slice gr rs.length cr) (.slice gf2 (aat (rs++os)).length cf2) (.slice (some ⟨w.heap.size+1+1,0,none⟩) s.T.length s.T.length) rs (aat (rs++os)) ds∧Cb w.heap.size wy w2.heap.size sm (abp (s.T.map Th.is) (aat (rs++os)))))
 case first =>
  have hw3:=za HWT
  ·have g2:(wt==2)=false:=by rw[hw3];rfl
   have ho:os=[]:=by rw[za HOS,if_neg (by rw[hw3];decide)]
   subst ho
   have hlc:=anj (gw:=gw) (za HZA) (za HCH)
   obtain⟨lc,hlc2⟩:∃lc:Nat,abe (abv s.T (aat rs)) 0 s.here (s.T.map Th.is)=lc:=⟨_,rfl⟩
   have HLC:Hid ((ade s.P (abn gw s.ad rs)).T.length+(zg (ade s.P (abn gw s.ad rs)).T).length=lc):=hlc.symm.trans hlc2
   have HCELLS:Hid (∀(X:World) (mx:ZM) (Nx:ZN) (xx:List Value),Zq2 B X zb mx Nx s m xx→X.cell? ⟨w.heap.size,0,none⟩=some (.pointer (some ⟨zb,0,none⟩))→Cb w.heap.size X w2.heap.size sm (abp (s.T.map Th.is) (aat rs))→Calls prog 36 #[.func (.func 40) #[] #[.pointer (some ⟨w2.heap.size,0,none⟩)],.pointer (some ⟨w.heap.size,0,none⟩)] X fun e w'=>e=.returned (.int .i64 (lc:Int))∧w'=X):=fun X mx Nx xx hz hb hc=>by
    rw[←hlc2]
    exact ank (za HZA) (za HVT) (za HVH) hz hb hc
   have HCB0:Hid (Cb w.heap.size wz w2.heap.size sm (abp (s.T.map Th.is) (aat rs))):=by
    have:=za HCB
    rw[List.append_nil] at this
    exact this
   clear hw3 hlc hlc2
   go_wp2_with fail
   by_cases hfit:(lc:Int)≤s.P.ro
   ·have n3:¬s.P.ro<(lc:Int):=by omega
    have HMJ:=zc (aos (za HG3) (za HRF) cr (by have:=(za HZA).fw.n;omega) (by rw[za HLC];exact hfit))
    rw[za HLL] at HMJ
    clear hfit
    refine(za HMJ).mono ?_
    rintro e w3 ⟨rfl,hmj,hsz⟩
    dsimp only
    obtain⟨m2,P2,D2,here2,ad2,xw,hcm,hm1,hm2,hkh⟩:=aqh (za HZA) hk (za HBZ) (za HCH) (za HGW) hmj hsz
    have q0:w3.cell? ⟨w.heap.size,0,none⟩=some (.pointer (some ⟨zb,0,none⟩)):=zd ((za HCZ).keep hkh).bz' 0
    have q5:w3.cell? ⟨zb,5,none⟩=some (.int .i64 s.P.ro):=zd hcm.zk.zr.blk 5
    have qa:w3.cell? ⟨zb,10,none⟩=some (.int .i64 s.P.majors):=zd hcm.zk.zr.blk 10
    have fa:w3.frozen? ⟨zb,10,none⟩=false:=zt hcm.zk.zr.blk 10
    have HCELL:=zc (za HCELLS w3.drew m2 _ _ ⟨⟨_,hcm.zk.zr.keep (Below.refl _ _).drew⟩,hcm.sm⟩ q0 (((za HCB0).keep hkh).keep KeepHi.drew))
    have HCM:=zc hcm
    have HM1:=zc hm1
    have HM2:=zc hm2
    have HKH:=zc hkh
    clear hmj hsz hcm hm1 hm2 hkh HMJ z0 y0 s0 y5 y7 y8
    go_wp2_with fail
    go_cut [156] (fun p wd=>p=.bool false∧wd=w3.drew)
    case first =>
     refine wp_region_held_drew (S:=fun w'=>w'.cell? ⟨w.heap.size,0,none⟩=some (.pointer (some ⟨zb,0,none⟩))∧w'.cell? ⟨zb,5,none⟩=some (.int .i64 s.P.ro)∧w'=w3.drew) (by kernel_rfl) ⟨q0,q5,rfl⟩ (fun hHeld=>?_)
     refine tka 0 149 rfl ?_
     refine tka 1 150 rfl ?_
     refine tka 3 152 rfl ?_
     refine tka 4 153 rfl ?_
     refine tka 5 154 rfl ?_
     refine tka 6 155 rfl ?_
     simp only[sA,sB,sC]
     refine wpAnyH_ready (rs:=[2]) (by kernel_rfl) (by simp) ?_
     refine AllReadyH.cons (o:={ dst:=some 151,op:=_,type:=_,pos:=_,after:=_,guard:=_ }) rfl (fun K hK=>?_) AllReadyH.nil
     refine aaq (by kernel_rfl) (by simp[Act.eval,go_sem]) ((za HCELL).mono ?_)
     rintro e w4 ⟨rfl,hw4⟩
     subst hw4
     refine hK.out _ _ hHeld (fun hHeld2=>?_)
     clear hK K
     simp only[Act.put,sA,sB,sC]
     refine tka 7 156 rfl ?_
     simp only[sA,sB,sC]
     refine wpAnyH_done (by kernel_rfl) ?_ _
     go_wp2_with fail
     go_meet
     exact⟨by simp,rfl⟩
    rename World=>wd
    obtain⟨rfl,hd⟩:=hcut
    have q0:wd.cell? ⟨w.heap.size,0,none⟩=some (.pointer (some ⟨zb,0,none⟩)):=by rw[hd];exact q0
    have qa:wd.cell? ⟨zb,10,none⟩=some (.int .i64 s.P.majors):=by rw[hd];exact qa
    have fa:wd.frozen? ⟨zb,10,none⟩=false:=by rw[hd];exact fa
    have HD:=zc hd
    clear hd
    go_wp2_with fail
    go_meet
    have e:=za HD
    subst e
    refine⟨m2,P2,D2,here2,ad2,xw,?_,((za HCZ).keep (za HKH)).keep (KeepHi.drew.trans (KeepHi.set hzl) (Nat.le_refl _)),((za HCB).keep (za HKH)).keep (KeepHi.drew.trans (KeepHi.set hzl) (Nat.le_refl _))⟩
    have hc:=za HCM
    rw[List.append_nil]
    exact⟨(hc.zk.keep (Below.refl _ _).drew).num 10 _ (by rw[za HM1,za HM2];rfl),hc.xw',hc.pc,hc.fw,hc.sm,hc.rr⟩
   ·have n3:s.P.ro<(lc:Int):=by omega
    have HMJ:=zc (ang (za HG3) (za HRF) cr (by have:=(za HZA).fw.n;omega) (by rw[za HLC];exact n3))
    rw[za HLL] at HMJ
    clear hfit
    refine(za HMJ).mono ?_
    rintro e w3 ⟨rfl,hb3⟩
    dsimp only
    have HB4:=zc ((za HBZ).trans (hb3.mono (za HBZ).size))
    have q0:=zj hb3 z0 (ze z0)
    have q5:=zj hb3 y5 (ze y5)
    have HCELL:=zc (za HCELLS w3.drew m _ _ ⟨⟨_,((za HZ3).keep hb3).keep (Below.refl _ _).drew⟩,⟨rfl,rfl,rfl,rfl,rfl,rfl,rfl⟩⟩ q0 (((za HCB0).keep (KeepHi.below hb3)).keep KeepHi.drew))
    clear hb3 HMJ z0 y0 s0 y5 y7 y8
    go_wp2_with fail
    go_cut [156] (fun p wd=>p=.bool true∧wd=w3.drew)
    case first =>
     refine wp_region_held_drew (S:=fun w'=>w'.cell? ⟨w.heap.size,0,none⟩=some (.pointer (some ⟨zb,0,none⟩))∧w'.cell? ⟨zb,5,none⟩=some (.int .i64 s.P.ro)∧w'=w3.drew) (by kernel_rfl) ⟨q0,q5,rfl⟩ (fun hHeld=>?_)
     refine tka 0 149 rfl ?_
     refine tka 1 150 rfl ?_
     refine tka 3 152 rfl ?_
     refine tka 4 153 rfl ?_
     refine tka 5 154 rfl ?_
     refine tka 6 155 rfl ?_
     simp only[sA,sB,sC]
     refine wpAnyH_ready (rs:=[2]) (by kernel_rfl) (by simp) ?_
     refine AllReadyH.cons (o:={ dst:=some 151,op:=_,type:=_,pos:=_,after:=_,guard:=_ }) rfl (fun K hK=>?_) AllReadyH.nil
     refine aaq (by kernel_rfl) (by simp[Act.eval,go_sem]) ((za HCELL).mono ?_)
     rintro e w4 ⟨rfl,hw4⟩
     subst hw4
     refine hK.out _ _ hHeld (fun hHeld2=>?_)
     clear hK K
     simp only[Act.put,sA,sB,sC]
     refine tka 7 156 rfl ?_
     simp only[sA,sB,sC]
     refine wpAnyH_done (by kernel_rfl) ?_ _
     go_wp2_with fail
     go_meet
     exact⟨by simp,rfl⟩
    rename World=>wd
    obtain⟨rfl,hd⟩:=hcut
    subst hd
    go_wp2_with fail
    refine(ab4 (v:=.iface 29 (.int .i64 12)) (n:=12) (p:=-1) (Or.inr (Or.inl ⟨rfl,rfl⟩)) (ErrT.keep (za HT) ((za HB4).drew)) 12).mono ?_
    rintro e w5 ⟨rfl,hb5⟩
    dsimp only
    go_wp2_with fail
    go_ret
    exact⟨rfl,(za HZA).same hk ((za HB4).trans (((Below.refl _ _).drew.trans hb5).mono (za HB4).size))⟩
 rename World=>wy
 obtain⟨m2,P2,D2,here2,ad2,xw,hcm,hca,hcb⟩:=za hcut
 rename ∀(a:Act) (w:World),_→_=>aK
 refine aK _ _ ?_
 show Code.wp _ _ (bodyPost prog Tryz.f19 fun e w'=>e=.returned (.bool true)∧ZNext B (k+1) zb w w') _ _
 generalize hfv:Value.slice gf2 (aat (rs++os)).length cf2=fv at hca ⊢
 generalize hlb:w2.heap.size=lb at hcb ⊢
 clear hfv hlb
 have hG:=za HR gw rs gr cr fv lb u12 u13 wy (za HGW) ⟨ds,os,sm,m2,P2,D2,here2,ad2,xw,za HCH,hcm,hca,hcb⟩
 exact hG u10 u4 u18 u19 u20 u21 u22 u23 u24 u25 u26 u27 u28 u29 u30 u31 u32 u33 u34 u35 u36 u37 u38 u39 u40 u41 u42 u43 u44 u45 u46 u47 u48 u49 u50 u51 u52 u53 u54 u55 u56 u57 u58 u59 u60 u61 u62 u63 u64 u65 u66 u67 u68 u69 u70 u71 u72 u73 u74 u75 u76 u77 u78 u79 u80 u81 u82 u83 u84 u85 u86 u87 u88 u89 u90 u91 u92 u93 u94 u95 u96 u97 u98 u99 u100 u101 u102 u103 u104 u105 u106 u107 u108 u109 u110 u111 u112 u113 u114 u115 u116 u117 u118 u119 u120 u121 u122 u123 u124 u125 u126 u127 u128 u129 u130 u131 u132 u133 u134 u135 u136 u137 u138 u139 u140 u141 u142 u143 u144 u145 u146 u147 u148 u149 u150 u151 u152 u153 u154 u155 u156 u157 u158 u159 u160 u161 u162 u163 u164 u165 u166 u167 u168 u169 u170 u171 u172 u173 u174 u175 u176 u177 u178 u179 u180 u181 u182 u183 u184 u185 u186 u187 u188 u189 u190 u191 u192 u193 u194 u195 u196 u197 u198 u199 u200 u201 u202 u203 u204 u205 u206 u207 u208 u209 u210 u211 u212 u213 u214 u215 u216 u217 u218 u219 u220 u221 u222 u223 u224 u225 u226 u227 u228 u229 u230 u231 u232 u233 u234 u235 u236 u237 u238 u239 u240 u241 u242 u243 u244 u245 u246 u247 u248 u249 u250 u251 u252 u253 u254 u255 u256 u257 u258 u259 u260 u261 u262 u263 u264 u265 u266 u267 u268 u269 u270 u271 u272 u273 u274 u275 u276 u277 u278 u279
end
end Go.Proofs.YtpnghfghdbijlaaGreatDoor
