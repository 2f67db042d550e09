/- A part. -/
import Derived.Test.YtpnghfghdbijlaaGreatDoorM25
open Go.Proofs.Tryz
namespace Go.Proofs.YtpnghfghdbijlaaGreatDoor
open Go.RowKit
set_option linter.unusedVariables false
set_option linter.unusedSimpArgs false
set_option maxRecDepth 100000
set_option maxHeartbeats 40000000
section
open Go.RowKit Go.Maps
theorem colC (B k:Nat) (w:World) (zb:Nat) (m:ZM) (s:ZS) (wt a b c bits:Int) (h:ZAt B k w zb m s) (hk:k<60):∀gw rs gr cr f lb e1 e2 wy,(0<s.T.length→m.vw.ownBlock=some gw)→Inv2 B k w wy zb gw s m wt a b c bits gr cr f rs lb→(colB B k w zb m s wt a b c bits).1 rs gr cr wy e1 e2 f lb:=by
 intro gw rs gr cr f lb e1 e2 wy hgw hinv
 obtain⟨ds,os,sm,m2,P2,D2,here2,ad2,xw0,hch,hcm,hca,hcb⟩:=hinv
 have hTl:s.T.length≤60:=by have:=h.fw.t;have:=h.fw.k60;omega
 have hzl:=hlt h.zr.blk
 have hsm:=hcm.sm
 have lT:(abk s.T here2).length=s.T.length:=acz _ _
 have lH:here2.length=s.here.length:=by rw[hcm.pc.hs];simp[ac2]
 have lH2:s.here.length=s.T.length:=h.zi.rep.len
 have lK:(abh s here2 rs).length=s.known.length:=by rw[h.zi.lk];simp[abh]
 have lK2:s.known.length=s.T.length:=h.zi.lk
 have HI0:Hid (∃xw,Zk B w wy zb m2 P2 D2 { aau s.P with mn:=P2.minors,mj:=P2.majors } (aax (abk s.T here2) s.T 0) s.T.length xw (aax here2 s.here 0) (aax (abh s here2 rs) s.known 0)∧XwI xw s D2 ad2 rs 0∧Ca w.heap.size wy zb w.heap.size (w.heap.size+1) gw wt a b c bits (.slice gr rs.length cr) f (.slice (some ⟨w.heap.size+1+1,0,none⟩) s.T.length s.T.length) rs (aat (rs++os)) ds∧Cb w.heap.size wy lb sm (abp (s.T.map Th.is) (aat (rs++os)))):=by
  refine⟨xw0,?_,?_,hca,hcb⟩
  ·rw[ahp,ahp,ahp]
   exact hcm.zk
  ·intro q hq hor cc hcc
   have hm:q∈rs:=hor.resolve_left (Nat.not_lt_zero _)
   obtain⟨x1,x2,x3⟩:=hcm.xw' q hm
   unfold wf
   rw[if_pos hm]
   match cc,hcc with
   | 0,_=>exact x1
   | 1,_=>exact x2
   | 2,_=>exact x3
 have HLOW:Hid (∀q,ae6 zb m2 q→q<w.heap.size):=fun q hq=>(h.zr.lt (by
  obtain⟨e1,e2,e3,e4,e5,e6,_⟩:=hsm
  unfold ae6 at hq ⊢
  rw[e1,e2,e3,e4,e5,e6] at hq
  exact hq)).2
 have HZA:=zc h
 have HCM:=zc hcm
 have HCH:=zc hch
 have HLT:=zc lT
 have HLH:=zc lH
 have HLH2:=zc lH2
 have HLK:=zc lK
 have HLK2:=zc lK2
 have HGW:=zc hgw
 have hq:=aco
 clear hcm hca hcb hch h lT lH lH2 lK lK2 hgw hsm
 delta colB
 intro u10 u4 u18 u19 u20 u21 u22 u23 u24 u25 u26 u27 u28 u29 u30 u31 u32 u33 u34 u35 u36 u37 u38 u39 u40 u41 u42 u43 u44 u45 u46 u47 u48 u49 u50 u51 u52 u53 u54 u55 u56 u57 u58 u59 u60 u61 u62 u63 u64 u65 u66 u67 u68 u69 u70 u71 u72 u73 u74 u75 u76 u77 u78 u79 u80 u81 u82 u83 u84 u85 u86 u87 u88 u89 u90 u91 u92 u93 u94 u95 u96 u97 u98 u99 u100 u101 u102 u103 u104 u105 u106 u107 u108 u109 u110 u111 u112 u113 u114 u115 u116 u117 u118 u119 u120 u121 u122 u123 u124 u125 u126 u127 u128 u129 u130 u131 u132 u133 u134 u135 u136 u137 u138 u139 u140 u141 u142 u143 u144 u145 u146 u147 u148 u149 u150 u151 u152 u153 u154 u155 u156 u157 u158 u159 u160 u161 u162 u163 u164 u165 u166 u167 u168 u169 u170 u171 u172 u173 u174 u175 u176 u177 u178 u179 u180 u181 u182 u183 u184 u185 u186 u187 u188 u189 u190 u191 u192 u193 u194 u195 u196 u197 u198 u199 u200 u201 u202 u203 u204 u205 u206 u207 u208 u209 u210 u211 u212 u213 u214 u215 u216 u217 u218 u219 u220 u221 u222 u223 u224 u225 u226 u227 u228 u229 u230 u231 u232 u233 u234 u235 u236 u237 u238 u239 u240 u241 u242 u243 u244 u245 u246 u247 u248 u249 u250 u251 u252 u253 u254 u255 u256 u257 u258 u259 u260 u261 u262 u263 u264 u265 u266 u267 u268 u269 u270 u271 u272 u273 u274 u275 u276 u277 u278 u279
 go_wp2_with fail
 go_loopg [14] s.T.length (fun gg i wx=>∃(j:Nat),j≤s.T.length∧gg=s.T.length-j∧i=.int .i64 j∧Hid (∃xw,Zk B w wx zb m2 P2 D2 { aau s.P with mn:=P2.minors,mj:=P2.majors } (aax (abk s.T here2) s.T j) s.T.length xw (aax here2 s.here j) (aax (abh s here2 rs) s.known j)∧XwI xw s D2 ad2 rs j∧Ca w.heap.size wx zb w.heap.size (w.heap.size+1) gw wt a b c bits (.slice gr rs.length cr) f (.slice (some ⟨w.heap.size+1+1,0,none⟩) s.T.length s.T.length) rs (aat (rs++os)) ds∧Cb w.heap.size wx lb sm (abp (s.T.map Th.is) (aat (rs++os)))))
 case atStart=>exact⟨0,Nat.zero_le _,by omega,rfl,za HI0⟩
 case round =>
  obtain⟨j,hj,rfl,rfl,hI⟩:=hrel
  obtain⟨xw,hz,hX,hca,hcb⟩:=za hI
  obtain⟨gt0,ct,hvt⟩:=aaa hz.zr.th
  have lm:(aax (abk s.T here2) s.T j).length=s.T.length:=ad0 (za HLT) j
  have z0:wr.cell? ⟨w.heap.size,0,none⟩=some (.pointer (some ⟨zb,0,none⟩)):=zd hca.bz' 0
  have z1:wr.cell? ⟨zb,1,none⟩=some (.slice gt0 s.T.length ct):=by rw[←lm,←hvt];exact zd hz.zr.blk 1
  have HZ:=zc hz
  have HX:=zc hX
  have HCA:=zc hca
  have HCB:=zc hcb
  have HVT:=zc hvt
  have HLM:=zc lm
  clear hz hX hca hcb hvt lm hI HI0
  by_cases hlt:j<s.T.length
  ·have hlt2:(j:Int)<(s.T.length:Int):=by omega
   obtain⟨t,ht⟩:∃t,s.T[j]?=some t:=⟨_,List.getElem?_eq_getElem hlt⟩
   have htm:(aax (abk s.T here2) s.T j)[j]?=some t:=by rw[ac9 (za HLT),if_neg (by omega)];exact ht
   obtain⟨tb,vi,hb1,hb2,hb3,hb4⟩:=(za HZ).zr.thing htm
   obtain⟨gt,e1,_,r1,_⟩:=aa2 (za HZ).zr.th (i:=j) (x:=.pointer (some ⟨tb,0,none⟩)) (by rw[List.getElem?_map,hb1];rfl) (za HVT)
   subst e1
   obtain⟨h0,hh0⟩:∃h0,s.here[j]?=some h0:=⟨_,List.getElem?_eq_getElem (by rw[za HLH2];exact hlt)⟩
   have hhm:(aax here2 s.here j)[j]?=some h0:=by rw[ac9 (za HLH),if_neg (by omega)];exact hh0
   have lmh:(aax here2 s.here j).length=s.T.length:=by rw[ad0 (za HLH),za HLH2]
   obtain⟨gha,ch,hvh⟩:=aaa (za HZ).zr.hr
   obtain⟨gh,e2,_,r3,f3⟩:=aa2 (za HZ).zr.hr (i:=j) (x:=.bool h0) (by rw[List.getElem?_map,hhm];rfl) hvh
   subst e2
   have z3:wr.cell? ⟨zb,3,none⟩=some (.slice (some ⟨gh,0,none⟩) (aax here2 s.here j).length ch):=by rw[←hvh];exact zd (za HZ).zr.blk 3
   have l0:wr.cell? ⟨lb,0,none⟩=some (.map (some sm)):=zd (za HCB).bk 0
   have se:=(za HCB).se
   have hlt3:(j:Int)<((aax here2 s.here j).length:Int):=by rw[lmh];omega
   have hji:I64 (j:Int):=⟨by omega,by omega⟩
   obtain⟨hb,hhb⟩:∃hb,hb=(h0&&abv s.T (aat (rs++os)) j):=⟨_,rfl⟩
   have HH2:Hid (here2[j]?=some hb):=by
    show here2[j]?=some hb
    rw[(za HCM).pc.hs,hhb]
    unfold ac2
    rw[List.getElem?_mapIdx,hh0]
    rfl
   have HTT:=zc ht
   have HTM:=zc htm
   have HB1:=zc hb1
   have HVH:=zc hvh
   have HHB:=zc hhb
   have HSE:=zc se
   have ghl:gh<w.heap.size:=(za HLOW) gh (Or.inr (Or.inr (Or.inr (Or.inl (by rw[hvh];rfl)))))
   have tbl:tb<w.heap.size:=(za HLOW) tb (Or.inr (Or.inr (Or.inr (Or.inr (Or.inr (Or.inl (List.mem_of_getElem? hb1)))))))
   clear ht htm hb1 hb2 hb3 hb4 hh0 hhm hvh lmh hhb
   go_wp2_with fail
   go_cut [] (fun wx=>Hid (Zk B w wx zb m2 P2 D2 { aau s.P with mn:=P2.minors,mj:=P2.majors } (aax (abk s.T here2) s.T j) s.T.length xw ((aax here2 s.here j).set j hb) (aax (abh s here2 rs) s.known j)∧Ca w.heap.size wx zb w.heap.size (w.heap.size+1) gw wt a b c bits (.slice gr rs.length cr) f (.slice (some ⟨w.heap.size+1+1,0,none⟩) s.T.length s.T.length) rs (aat (rs++os)) ds∧Cb w.heap.size wx lb sm (abp (s.T.map Th.is) (aat (rs++os)))))
   case first =>
    have HD:Hid (Zk B w (wr.drew.setCell ⟨gh,j,none⟩ (.bool hb)) zb m2 P2 D2 { aau s.P with mn:=P2.minors,mj:=P2.majors } (aax (abk s.T here2) s.T j) s.T.length xw ((aax here2 s.here j).set j hb) (aax (abh s here2 rs) s.known j)∧Ca w.heap.size (wr.drew.setCell ⟨gh,j,none⟩ (.bool hb)) zb w.heap.size (w.heap.size+1) gw wt a b c bits (.slice gr rs.length cr) f (.slice (some ⟨w.heap.size+1+1,0,none⟩) s.T.length s.T.length) rs (aat (rs++os)) ds∧Cb w.heap.size (wr.drew.setCell ⟨gh,j,none⟩ (.bool hb)) lb sm (abp (s.T.map Th.is) (aat (rs++os)))):=⟨((za HZ).keep (Below.refl _ _).drew).setHere (za HVH) j hb,(za HCA).keep (KeepHi.drew.trans (KeepHi.set ghl) (Nat.le_refl _)),(za HCB).keep (KeepHi.drew.trans (KeepHi.set ghl) (Nat.le_refl _))⟩
    cases h0 with
    | false =>
     have e:hb=false:=by rw[za HHB];rfl
     subst e
     refine ace (S:=fun w'=>w'.cell? ⟨w.heap.size,0,none⟩=some (.pointer (some ⟨zb,0,none⟩))∧w'.cell? ⟨zb,3,none⟩=some (.slice (some ⟨gh,0,none⟩) (aax here2 s.here j).length ch)∧w'.cell? ⟨gh,j,none⟩=some (.bool false)∧w'.cell? ⟨lb,0,none⟩=some (.map (some sm))∧SeenAt w' sm (abp (s.T.map Th.is) (aat (rs++os)))) 18 (by kernel_rfl) ⟨z0,z3,r3,l0,se⟩ (fun hHeld=>?_)
     refine aal (i:=0) (cs:=[1,2,3,17,18]) (oi:={ dst:=some 184,op:=_,type:=_,pos:=_,after:=_,guard:=_ }) (v:=?_) rfl (by kernel_rfl) (by kernel_rfl) (by kernel_rfl) (by rfl) (by kernel_rfl) (fun _ _ _ h=>h) (Or.inl ⟨by rfl,?_⟩) (by assumption) ?_
     case refine_2 =>
      intro w hSw
      try dsimp only at hSw
      go_simp
      try with_reducible rfl
     simp only[Act.put,sA,sB,sC]
     refine zn (i:=1) (oi:={ dst:=some 185,op:=_,type:=_,pos:=_,after:=_,guard:=_ }) (v:=?_) rfl (by kernel_rfl) (by kernel_rfl) (by kernel_rfl) (by rfl) (fun _ _ _ h=>h) (Or.inl ⟨by rfl,?_⟩) (by assumption) ?_
     case refine_2 =>
      intro w hSw
      try dsimp only at hSw
      go_simp
      try with_reducible rfl
     simp only[Act.put,sA,sB,sC]
     refine zn (i:=2) (oi:={ dst:=some 186,op:=_,type:=_,pos:=_,after:=_,guard:=_ }) (v:=?_) rfl (by kernel_rfl) (by kernel_rfl) (by kernel_rfl) (by rfl) (fun _ _ _ h=>h) (Or.inl ⟨by rfl,?_⟩) (by assumption) ?_
     case refine_2 =>
      intro w hSw
      try dsimp only at hSw
      go_simp
      try with_reducible rfl
     simp only[Act.put,sA,sB,sC]
     refine aal (i:=3) (cs:=[17,18]) (oi:={ dst:=some 187,op:=_,type:=_,pos:=_,after:=_,guard:=_ }) (v:=?_) rfl (by kernel_rfl) (by kernel_rfl) (by kernel_rfl) (by rfl) (by kernel_rfl) (fun _ _ _ h=>h) (Or.inl ⟨by rfl,?_⟩) (by assumption) ?_
     case refine_2 =>
      intro w hSw
      try dsimp only at hSw
      go_simp
      try with_reducible rfl
     simp only[Act.put,sA,sB,sC]
     refine zn (i:=4) (oi:={ dst:=some 188,op:=_,type:=_,pos:=_,after:=_,guard:=_ }) (v:=?_) rfl (by kernel_rfl) (by kernel_rfl) (by kernel_rfl) (by rfl) (fun _ _ _ h=>h) (Or.inl ⟨by rfl,?_⟩) (by assumption) ?_
     case refine_2 =>
      intro w hSw
      try dsimp only at hSw
      go_simp
      try with_reducible rfl
     simp only[Act.put,sA,sB,sC]
     refine aal (i:=5) (cs:=[6,7,8,10,11,12,16,18]) (oi:={ dst:=some 189,op:=_,type:=_,pos:=_,after:=_,guard:=_ }) (v:=?_) rfl (by kernel_rfl) (by kernel_rfl) (by kernel_rfl) (by rfl) (by kernel_rfl) (fun _ _ _ h=>h) (Or.inl ⟨by rfl,?_⟩) (by assumption) ?_
     case refine_2 =>
      intro w hSw
      try dsimp only at hSw
      go_simp
      try with_reducible rfl
     simp only[Act.put,sA,sB,sC]
     refine zn (i:=6) (oi:={ dst:=some 190,op:=_,type:=_,pos:=_,after:=_,guard:=_ }) (v:=?_) rfl (by kernel_rfl) (by kernel_rfl) (by kernel_rfl) (by rfl) (fun _ _ _ h=>h) (Or.inl ⟨by rfl,?_⟩) (by assumption) ?_
     case refine_2 =>
      intro w hSw
      try dsimp only at hSw
      go_simp
      try with_reducible rfl
     simp only[Act.put,sA,sB,sC]
     refine zn (i:=7) (oi:={ dst:=some 191,op:=_,type:=_,pos:=_,after:=_,guard:=_ }) (v:=?_) rfl (by kernel_rfl) (by kernel_rfl) (by kernel_rfl) (by rfl) (fun _ _ _ h=>h) (Or.inl ⟨by rfl,?_⟩) (by assumption) ?_
     case refine_2 =>
      intro w hSw
      try dsimp only at hSw
      go_simp
      try with_reducible rfl
     simp only[Act.put,sA,sB,sC]
     refine aal (i:=8) (cs:=[10,11,12,16,18]) (oi:={ dst:=some 192,op:=_,type:=_,pos:=_,after:=_,guard:=_ }) (v:=?_) rfl (by kernel_rfl) (by kernel_rfl) (by kernel_rfl) (by rfl) (by kernel_rfl) (fun _ _ _ h=>h) (Or.inl ⟨by rfl,?_⟩) (by assumption) ?_
     case refine_2 =>
      intro w hSw
      try dsimp only at hSw
      go_simp
      try with_reducible rfl
     simp only[Act.put,sA,sB,sC]
     refine zn (i:=9) (oi:={ dst:=some 193,op:=_,type:=_,pos:=_,after:=_,guard:=_ }) (v:=?_) rfl (by kernel_rfl) (by kernel_rfl) (by kernel_rfl) (by rfl) (fun _ _ _ h=>h) (Or.inl ⟨by rfl,?_⟩) (by assumption) ?_
     case refine_2 =>
      intro w hSw
      try dsimp only at hSw
      go_simp
      try with_reducible rfl
     simp only[Act.put,sA,sB,sC]
     refine zn (i:=10) (oi:={ dst:=some 194,op:=_,type:=_,pos:=_,after:=_,guard:=_ }) (v:=?_) rfl (by kernel_rfl) (by kernel_rfl) (by kernel_rfl) (by rfl) (fun _ _ _ h=>h) (Or.inl ⟨by rfl,?_⟩) (by assumption) ?_
     case refine_2 =>
      intro w hSw
      try dsimp only at hSw
      go_simp
      try with_reducible rfl
     simp only[Act.put,sA,sB,sC]
     refine aal (i:=11) (cs:=[12,16,18]) (oi:={ dst:=some 195,op:=_,type:=_,pos:=_,after:=_,guard:=_ }) (v:=?_) rfl (by kernel_rfl) (by kernel_rfl) (by kernel_rfl) (by rfl) (by kernel_rfl) (fun _ _ _ h=>h) (Or.inl ⟨by rfl,?_⟩) (by assumption) ?_
     case refine_2 =>
      intro w hSw
      try dsimp only at hSw
      go_simp
      try with_reducible rfl
     simp only[Act.put,sA,sB,sC]
     refine zn (i:=12) (oi:={ dst:=some 196,op:=_,type:=_,pos:=_,after:=_,guard:=_ }) (v:=?_) rfl (by kernel_rfl) (by kernel_rfl) (by kernel_rfl) (by rfl) (fun _ _ _ h=>h) (Or.inl ⟨by rfl,?_⟩) (by assumption) ?_
     case refine_2 =>
      intro w hSw
      try dsimp only at hSw
      go_simp
      try with_reducible rfl
     simp only[Act.put,sA,sB,sC]
     refine zn (i:=13) (oi:={ dst:=some 197,op:=_,type:=_,pos:=_,after:=_,guard:=_ }) (v:=undef) rfl (by kernel_rfl) (by kernel_rfl) (by kernel_rfl) (by rfl) (fun _ _ _ h=>h) (Or.inr ⟨by rfl,rfl⟩) (by assumption) ?_
     simp only[Act.put,sA,sB,sC]
     refine zn (i:=14) (oi:={ dst:=some 198,op:=_,type:=_,pos:=_,after:=_,guard:=_ }) (v:=undef) rfl (by kernel_rfl) (by kernel_rfl) (by kernel_rfl) (by rfl) (fun _ _ _ h=>h) (Or.inr ⟨by rfl,rfl⟩) (by assumption) ?_
     simp only[Act.put,sA,sB,sC]
     refine zn (i:=15) (oi:={ dst:=some 199,op:=_,type:=_,pos:=_,after:=_,guard:=_ }) (v:=undef) rfl (by kernel_rfl) (by kernel_rfl) (by kernel_rfl) (by rfl) (fun _ _ _ h=>h) (Or.inr ⟨by rfl,rfl⟩) (by assumption) ?_
     simp only[Act.put,sA,sB,sC]
     refine zn (i:=16) (oi:={ dst:=some 200,op:=_,type:=_,pos:=_,after:=_,guard:=_ }) (v:=?_) rfl (by kernel_rfl) (by kernel_rfl) (by kernel_rfl) (by rfl) (fun _ _ _ h=>h) (Or.inl ⟨by rfl,?_⟩) (by assumption) ?_
     case refine_2 =>
      intro w hSw
      try dsimp only at hSw
      go_simp
      try with_reducible rfl
     simp only[Act.put,sA,sB,sC]
     refine zn (i:=17) (oi:={ dst:=some 201,op:=_,type:=_,pos:=_,after:=_,guard:=_ }) (v:=?_) rfl (by kernel_rfl) (by kernel_rfl) (by kernel_rfl) (by rfl) (fun _ _ _ h=>h) (Or.inl ⟨by rfl,?_⟩) (by assumption) ?_
     case refine_2 =>
      intro w hSw
      try dsimp only at hSw
      go_simp
      try with_reducible rfl
     simp only[Act.put,sA,sB,sC]
     refine acp (o:={ dst:=none,op:=_,type:=_,pos:=_,after:=_,guard:=_ }) (by kernel_rfl) rfl (fun K hK=>?_)
     go_simp
     refine hK.out _ _ ?_
     clear hK K
     refine wpAny_done (by kernel_rfl) ?_ _
     go_wp2_with fail
     go_meet
     exact za HD
    | true =>
     have e:hb=decide ((j:Int)∈abp (s.T.map Th.is) (aat (rs++os))):=by rw[za HHB];rfl
     subst e
     have hlk:∀w':World,SeenAt w' sm (abp (s.T.map Th.is) (aat (rs++os)))→(Go.Instr.lookup 88 (.map (some sm)) (.int .i64 (j:Int)) false).run prog w'=.ok (.bool (decide ((j:Int)∈abp (s.T.map Th.is) (aat (rs++os))))) w':=fun w' hw=>hw.look hji
     refine ace (S:=fun w'=>w'.cell? ⟨w.heap.size,0,none⟩=some (.pointer (some ⟨zb,0,none⟩))∧w'.cell? ⟨zb,3,none⟩=some (.slice (some ⟨gh,0,none⟩) (aax here2 s.here j).length ch)∧w'.cell? ⟨gh,j,none⟩=some (.bool true)∧w'.cell? ⟨lb,0,none⟩=some (.map (some sm))∧SeenAt w' sm (abp (s.T.map Th.is) (aat (rs++os)))) 18 (by kernel_rfl) ⟨z0,z3,r3,l0,se⟩ (fun hHeld=>?_)
     refine aal (i:=0) (cs:=[1,2,3,17,18]) (oi:={ dst:=some 184,op:=_,type:=_,pos:=_,after:=_,guard:=_ }) (v:=?_) rfl (by kernel_rfl) (by kernel_rfl) (by kernel_rfl) (by rfl) (by kernel_rfl) (fun _ _ _ h=>h) (Or.inl ⟨by rfl,?_⟩) (by assumption) ?_
     case refine_2 =>
      intro w hSw
      try dsimp only at hSw
      go_simp
      try with_reducible rfl
     simp only[Act.put,sA,sB,sC]
     refine zn (i:=1) (oi:={ dst:=some 185,op:=_,type:=_,pos:=_,after:=_,guard:=_ }) (v:=?_) rfl (by kernel_rfl) (by kernel_rfl) (by kernel_rfl) (by rfl) (fun _ _ _ h=>h) (Or.inl ⟨by rfl,?_⟩) (by assumption) ?_
     case refine_2 =>
      intro w hSw
      try dsimp only at hSw
      go_simp
      try with_reducible rfl
     simp only[Act.put,sA,sB,sC]
     refine zn (i:=2) (oi:={ dst:=some 186,op:=_,type:=_,pos:=_,after:=_,guard:=_ }) (v:=?_) rfl (by kernel_rfl) (by kernel_rfl) (by kernel_rfl) (by rfl) (fun _ _ _ h=>h) (Or.inl ⟨by rfl,?_⟩) (by assumption) ?_
     case refine_2 =>
      intro w hSw
      try dsimp only at hSw
      go_simp
      try with_reducible rfl
     simp only[Act.put,sA,sB,sC]
     refine aal (i:=3) (cs:=[17,18]) (oi:={ dst:=some 187,op:=_,type:=_,pos:=_,after:=_,guard:=_ }) (v:=?_) rfl (by kernel_rfl) (by kernel_rfl) (by kernel_rfl) (by rfl) (by kernel_rfl) (fun _ _ _ h=>h) (Or.inl ⟨by rfl,?_⟩) (by assumption) ?_
     case refine_2 =>
      intro w hSw
      try dsimp only at hSw
      go_simp
      try with_reducible rfl
     simp only[Act.put,sA,sB,sC]
     refine zn (i:=4) (oi:={ dst:=some 188,op:=_,type:=_,pos:=_,after:=_,guard:=_ }) (v:=?_) rfl (by kernel_rfl) (by kernel_rfl) (by kernel_rfl) (by rfl) (fun _ _ _ h=>h) (Or.inl ⟨by rfl,?_⟩) (by assumption) ?_
     case refine_2 =>
      intro w hSw
      try dsimp only at hSw
      go_simp
      try with_reducible rfl
     simp only[Act.put,sA,sB,sC]
     refine aal (i:=5) (cs:=[6,7,8,10,11,12,16,18]) (oi:={ dst:=some 189,op:=_,type:=_,pos:=_,after:=_,guard:=_ }) (v:=?_) rfl (by kernel_rfl) (by kernel_rfl) (by kernel_rfl) (by rfl) (by kernel_rfl) (fun _ _ _ h=>h) (Or.inl ⟨by rfl,?_⟩) (by assumption) ?_
     case refine_2 =>
      intro w hSw
      try dsimp only at hSw
      go_simp
      try with_reducible rfl
     simp only[Act.put,sA,sB,sC]
     refine zn (i:=6) (oi:={ dst:=some 190,op:=_,type:=_,pos:=_,after:=_,guard:=_ }) (v:=?_) rfl (by kernel_rfl) (by kernel_rfl) (by kernel_rfl) (by rfl) (fun _ _ _ h=>h) (Or.inl ⟨by rfl,?_⟩) (by assumption) ?_
     case refine_2 =>
      intro w hSw
      try dsimp only at hSw
      go_simp
      try with_reducible rfl
     simp only[Act.put,sA,sB,sC]
     refine zn (i:=7) (oi:={ dst:=some 191,op:=_,type:=_,pos:=_,after:=_,guard:=_ }) (v:=?_) rfl (by kernel_rfl) (by kernel_rfl) (by kernel_rfl) (by rfl) (fun _ _ _ h=>h) (Or.inl ⟨by rfl,?_⟩) (by assumption) ?_
     case refine_2 =>
      intro w hSw
      try dsimp only at hSw
      go_simp
      try with_reducible rfl
     simp only[Act.put,sA,sB,sC]
     refine aal (i:=8) (cs:=[10,11,12,16,18]) (oi:={ dst:=some 192,op:=_,type:=_,pos:=_,after:=_,guard:=_ }) (v:=?_) rfl (by kernel_rfl) (by kernel_rfl) (by kernel_rfl) (by rfl) (by kernel_rfl) (fun _ _ _ h=>h) (Or.inl ⟨by rfl,?_⟩) (by assumption) ?_
     case refine_2 =>
      intro w hSw
      try dsimp only at hSw
      go_simp
      try with_reducible rfl
     simp only[Act.put,sA,sB,sC]
     refine zn (i:=9) (oi:={ dst:=some 193,op:=_,type:=_,pos:=_,after:=_,guard:=_ }) (v:=?_) rfl (by kernel_rfl) (by kernel_rfl) (by kernel_rfl) (by rfl) (fun _ _ _ h=>h) (Or.inl ⟨by rfl,?_⟩) (by assumption) ?_
     case refine_2 =>
      intro w hSw
      try dsimp only at hSw
      go_simp
      try with_reducible rfl
     simp only[Act.put,sA,sB,sC]
     refine zn (i:=10) (oi:={ dst:=some 194,op:=_,type:=_,pos:=_,after:=_,guard:=_ }) (v:=?_) rfl (by kernel_rfl) (by kernel_rfl) (by kernel_rfl) (by rfl) (fun _ _ _ h=>h) (Or.inl ⟨by rfl,?_⟩) (by assumption) ?_
     case refine_2 =>
      intro w hSw
      try dsimp only at hSw
      go_simp
      try with_reducible rfl
     simp only[Act.put,sA,sB,sC]
     refine aal (i:=11) (cs:=[12,16,18]) (oi:={ dst:=some 195,op:=_,type:=_,pos:=_,after:=_,guard:=_ }) (v:=?_) rfl (by kernel_rfl) (by kernel_rfl) (by kernel_rfl) (by rfl) (by kernel_rfl) (fun _ _ _ h=>h) (Or.inl ⟨by rfl,?_⟩) (by assumption) ?_
     case refine_2 =>
      intro w hSw
      try dsimp only at hSw
      go_simp
      try with_reducible rfl
     simp only[Act.put,sA,sB,sC]
     refine zn (i:=12) (oi:={ dst:=some 196,op:=_,type:=_,pos:=_,after:=_,guard:=_ }) (v:=?_) rfl (by kernel_rfl) (by kernel_rfl) (by kernel_rfl) (by rfl) (fun _ _ _ h=>h) (Or.inl ⟨by rfl,?_⟩) (by assumption) ?_
     case refine_2 =>
      intro w hSw
      try dsimp only at hSw
      go_simp
      try with_reducible rfl
     simp only[Act.put,sA,sB,sC]
     refine aal (i:=13) (cs:=[15,16,18]) (oi:={ dst:=some 197,op:=_,type:=_,pos:=_,after:=_,guard:=_ }) (v:=?_) rfl (by kernel_rfl) (by kernel_rfl) (by kernel_rfl) (by rfl) (by kernel_rfl) (fun _ _ _ h=>h) (Or.inl ⟨by rfl,?_⟩) (by assumption) ?_
     case refine_2 =>
      intro w hSw
      try dsimp only at hSw
      go_simp
      try with_reducible rfl
     simp only[Act.put,sA,sB,sC]
     refine zn (i:=14) (oi:={ dst:=some 198,op:=_,type:=_,pos:=_,after:=_,guard:=_ }) (v:=?_) rfl (by kernel_rfl) (by kernel_rfl) (by kernel_rfl) (by rfl) (fun _ _ _ h=>h) (Or.inl ⟨by rfl,?_⟩) (by assumption) ?_
     case refine_2 =>
      intro w hSw
      try dsimp only at hSw
      go_simp
      try with_reducible rfl
     simp only[Act.put,sA,sB,sC]
     refine aal (i:=15) (cs:=[16,18]) (oi:={ dst:=some 199,op:=_,type:=_,pos:=_,after:=_,guard:=_ }) (v:=?_) rfl (by kernel_rfl) (by kernel_rfl) (by kernel_rfl) (by rfl) (by kernel_rfl) (fun _ _ _ h=>h) (Or.inl ⟨by rfl,?_⟩) (by assumption) ?_
     case refine_2 =>
      intro w hSw
      try dsimp only at hSw
      go_simp
      try with_reducible rfl
     simp only[Act.put,sA,sB,sC]
     refine zn (i:=16) (oi:={ dst:=some 200,op:=_,type:=_,pos:=_,after:=_,guard:=_ }) (v:=?_) rfl (by kernel_rfl) (by kernel_rfl) (by kernel_rfl) (by rfl) (fun _ _ _ h=>h) (Or.inl ⟨by rfl,?_⟩) (by assumption) ?_
     case refine_2 =>
      intro w hSw
      try dsimp only at hSw
      go_simp
      try with_reducible rfl
     simp only[Act.put,sA,sB,sC]
     refine zn (i:=17) (oi:={ dst:=some 201,op:=_,type:=_,pos:=_,after:=_,guard:=_ }) (v:=?_) rfl (by kernel_rfl) (by kernel_rfl) (by kernel_rfl) (by rfl) (fun _ _ _ h=>h) (Or.inl ⟨by rfl,?_⟩) (by assumption) ?_
     case refine_2 =>
      intro w hSw
      try dsimp only at hSw
      go_simp
      try with_reducible rfl
     simp only[Act.put,sA,sB,sC]
     refine acp (o:={ dst:=none,op:=_,type:=_,pos:=_,after:=_,guard:=_ }) (by kernel_rfl) rfl (fun K hK=>?_)
     go_simp
     refine hK.out _ _ ?_
     clear hK K
     refine wpAny_done (by kernel_rfl) ?_ _
     go_wp2_with fail
     go_meet
     exact za HD
   rename World=>w1
   obtain⟨hz1,hca1,hcb1⟩:=za hcut
   have HS1:Hid ((aax here2 s.here j).set j hb=aax here2 s.here (j+1)):=ain (za HLH) (za HH2)
   have hT2:(abk s.T here2)[j]?=some { t with old:=hb }:=by
    rw[agj (za HTT),za HH2]
    rfl
   have HS2:Hid ((aax (abk s.T here2) s.T j).set j { t with old:=hb }=aax (abk s.T here2) s.T (j+1)):=ain (za HLT) hT2
   rw[za HS1] at hz1
   obtain⟨tb2,vi2,hb1',hb2',hb3',_⟩:=hz1.zr.thing (za HTM)
   have et:tb2=tb:=by
    rw[za HB1] at hb1'
    cases hb1'
    rfl
   subst et
   have lmh:(aax here2 s.here (j+1)).length=s.T.length:=by rw[ad0 (za HLH),za HLH2]
   have hhm:(aax here2 s.here (j+1))[j]?=some hb:=by rw[ac9 (za HLH),if_pos (by omega)];exact za HH2
   have hvh2:m2.vh=.slice (some ⟨gh,0,none⟩) (aax here2 s.here (j+1)).length ch:=by
    rw[za HVH,ad0 (za HLH),ad0 (za HLH)]
   obtain⟨gh2,e2,_,y3,_⟩:=aa2 hz1.zr.hr (i:=j) (x:=.bool hb) (by rw[List.getElem?_map,hhm];rfl) hvh2
   cases e2
   have x0:w1.cell? ⟨w.heap.size,0,none⟩=some (.pointer (some ⟨zb,0,none⟩)):=zd hca1.bz' 0
   have x3:w1.cell? ⟨zb,3,none⟩=some (.slice (some ⟨gh,0,none⟩) (aax here2 s.here (j+1)).length ch):=by rw[←hvh2];exact zd hz1.zr.blk 3
   have t3:w1.cell? ⟨tb2,3,none⟩=some (.bool t.old):=zd hb3' 3
   have tf3:w1.frozen? ⟨tb2,3,none⟩=false:=zt hb3' 3
   have hlt3:(j:Int)<((aax here2 s.here (j+1)).length:Int):=by rw[lmh];omega
   have HZ2:Hid (Zk B w (w1.setCell ⟨tb2,3,none⟩ (.bool hb)) zb m2 P2 D2 { aau s.P with mn:=P2.minors,mj:=P2.majors } (aax (abk s.T here2) s.T (j+1)) s.T.length xw (aax here2 s.here (j+1)) (aax (abh s here2 rs) s.known j)∧Ca w.heap.size (w1.setCell ⟨tb2,3,none⟩ (.bool hb)) zb w.heap.size (w.heap.size+1) gw wt a b c bits (.slice gr rs.length cr) f (.slice (some ⟨w.heap.size+1+1,0,none⟩) s.T.length s.T.length) rs (aat (rs++os)) ds∧Cb w.heap.size (w1.setCell ⟨tb2,3,none⟩ (.bool hb)) lb sm (abp (s.T.map Th.is) (aat (rs++os)))):=by
    refine⟨?_,hca1.keep (KeepHi.set tbl),hcb1.keep (KeepHi.set tbl)⟩
    have:=hz1.setOld (za HTM) (za HB1) hb
    rw[za HS2] at this
    exact this
   have HV2:=zc hvh2
   clear hz1 hca1 hcb1 hcut hT2 hb1' hb2' hb3' hhm hvh2 z0 z1 z3 r1 r3 f3 l0 se HS1 HS2
   go_upto_region 35 with fail
   go_cut [] (fun wx=>Hid (Zk B w wx zb m2 P2 D2 { aau s.P with mn:=P2.minors,mj:=P2.majors } (aax (abk s.T here2) s.T (j+1)) s.T.length xw (aax here2 s.here (j+1)) (aax (abh s here2 rs) s.known j)∧Ca w.heap.size wx zb w.heap.size (w.heap.size+1) gw wt a b c bits (.slice gr rs.length cr) f (.slice (some ⟨w.heap.size+1+1,0,none⟩) s.T.length s.T.length) rs (aat (rs++os)) ds∧Cb w.heap.size wx lb sm (abp (s.T.map Th.is) (aat (rs++os)))))
   case first =>
    go_wp2_with fail
    go_meet
    exact za HZ2
   rename World=>w2
   obtain⟨hz2,hca2,hcb2⟩:=za hcut
   obtain⟨tb3,vi3,hb1',_,hb3',_⟩:=hz2.zr.thing (i:=j) (t:={ t with old:=hb }) (by rw[ac9 (za HLT),if_pos (by omega),agj (za HTT),za HH2];rfl)
   have et:tb3=tb2:=by
    rw[za HB1] at hb1'
    cases hb1'
    rfl
   subst et
   obtain⟨gh2,e2,_,y3,_⟩:=aa2 hz2.zr.hr (i:=j) (x:=.bool hb) (by rw[List.getElem?_map,ac9 (za HLH),if_pos (by omega),za HH2];rfl) (za HV2)
   cases e2
   have x0:w2.cell? ⟨w.heap.size,0,none⟩=some (.pointer (some ⟨zb,0,none⟩)):=zd hca2.bz' 0
   have xh:w2.cell? ⟨zb,0,none⟩=some (.pointer (some ⟨m2.hp,0,none⟩)):=zd hz2.zr.blk 0
   have x3:w2.cell? ⟨zb,3,none⟩=some (.slice (some ⟨gh,0,none⟩) (aax here2 s.here (j+1)).length ch):=by rw[←za HV2];exact zd hz2.zr.blk 3
   have t2:w2.cell? ⟨tb3,2,none⟩=some (.int .i64 t.id):=zd hb3' 2
   have hdl:=(za HCH).len
   obtain⟨gd,e3,_,d1,_⟩:=aa2 hca2.rd (i:=j) (x:=.bool (decide (j∈rs))) (by rw[List.getElem?_map,(za HCH).ds j hlt];rfl) (by rw[hdl])
   cases e3
   have HZ3:=zc hz2
   have HCA3:=zc hca2
   have HCB3:=zc hcb2
   clear hz2 hca2 hcb2 hcut hb1' hb3' hdl t3 tf3 HZ2 HZ HCA HCB
   by_cases hm:j∈rs
   ·have d2:decide (j∈rs)=true:=by simpa using hm
    rw[d2] at d1
    have HM:=zc hm
    clear hm d2
    go_wp2_with fail
    go_roundg (s.T.length-(j+1))
    case measure=>omega
    case rel =>
     refine⟨j+1,by omega,rfl,by go_num,xw,?_,?_,za HCA3,za HCB3⟩
     ·have hk2:(abh s here2 rs)[j]?=s.known[j]?:=by
       rw[((za HCH).kn j (za HM)).2]
       unfold abh
       rw[List.getElem?_map,List.getElem?_range hlt]
       show some (kf s here2 rs j)=_
       unfold kf
       rw[decide_eq_true (za HM)]
       rfl
      have:=za HZ3
      rw[aox (za HLK) hk2] at this
      exact this
     ·intro q hq hor cc hcc
      refine za HX q hq ?_ cc hcc
      rcases hor with e | e
      ·by_cases eq:q=j
       ·exact Or.inr (eq ▸ za HM)
       ·exact Or.inl (by omega)
      ·exact Or.inr e
   ·have d2:decide (j∈rs)=false:=by simpa using hm
    rw[d2] at d1
    have HM:=zc hm
    clear hm d2
    have HAT:=zc (at_id (w:=w2.drew) ((za HZ3).hg.keep (Below.refl _ _).drew) (x:=t.id) (by
     have h1:=ahl (za HZA).zi.ids (za HTT)
     have h2:idC s.T≤s.T.length:=by unfold idC;exact List.length_filter_le _ _
     exact⟨by omega,by omega⟩))
    go_wp2_with fail
    go_cut [16,17] (fun p q wx=>p=.int .i64 (atV D2 t.id)∧q=.bool (Maps.has D2 (.int .i64 t.id))∧wx=w2.drew)
    case first =>
     have ent370:∀w:World,Sem.run prog (callFunc 20 #[.pointer (some ⟨m2.hp,0,none⟩),.int .i64 t.id]) w=.ok (.enter 20 #[.pointer (some ⟨m2.hp,0,none⟩),.int .i64 t.id]) w:=fun _=>by kernel_rfl
     refine wp_region_held_drew (S:=fun w'=>w'.cell? ⟨w.heap.size,0,none⟩=some (.pointer (some ⟨zb,0,none⟩))∧w'.cell? ⟨zb,0,none⟩=some (.pointer (some ⟨m2.hp,0,none⟩))∧w'.cell? ⟨tb3,2,none⟩=some (.int .i64 t.id)∧w'=w2.drew) (by kernel_rfl) ⟨x0,xh,t2,rfl⟩ (fun hHeld=>?_)
     refine tka 0 217 rfl ?_
     refine tka 1 218 rfl ?_
     refine tka 2 219 rfl ?_
     refine tka 3 220 rfl ?_
     refine tka 4 221 rfl ?_
     refine tka 5 222 rfl ?_
     refine tka 6 223 rfl ?_
     refine tka 7 224 rfl ?_
     simp only[sA,sB,sC]
     refine wpAnyH_ready (rs:=[8]) (by kernel_rfl) (by simp) ?_
     refine AllReadyH.cons (o:={ dst:=some 225,op:=_,type:=_,pos:=_,after:=_,guard:=_ }) rfl (fun K hK=>?_) AllReadyH.nil
     refine aaq (by kernel_rfl) (by simp[Act.eval,ent370,go_sem]) ((za HAT).mono ?_)
     rintro e w4 ⟨⟨v,hv,rfl⟩,hw4⟩
     subst hw4
     have ev:v=atV D2 t.id:=by unfold atV;rw[hv]
     subst ev
     clear hv
     refine hK.out _ _ hHeld (fun hHeld8=>?_)
     clear hK K
     simp only[Act.put,sA,sB,sC]
     refine tka 9 216 rfl ?_
     refine tka 10 226 rfl ?_
     refine tka 11 227 rfl ?_
     refine tka 12 16 rfl ?_
     refine tka 13 17 rfl ?_
     simp only[sA,sB,sC]
     refine wpAnyH_done (by kernel_rfl) ?_ _
     go_wp2_with fail
     go_meet
     exact⟨rfl,rfl,rfl⟩
    rename World=>w3
    obtain⟨rfl,rfl,hw3⟩:=hcut
    have x0:w3.cell? ⟨w.heap.size,0,none⟩=some (.pointer (some ⟨zb,0,none⟩)):=by rw[hw3];exact x0
    have x3:w3.cell? ⟨zb,3,none⟩=some (.slice (some ⟨gh,0,none⟩) (aax here2 s.here (j+1)).length ch):=by rw[hw3];exact x3
    have y3:w3.cell? ⟨gh,j,none⟩=some (.bool hb):=by rw[hw3];exact y3
    have t2:w3.cell? ⟨tb3,2,none⟩=some (.int .i64 t.id):=by rw[hw3];exact t2
    have HZ4:Hid (Zk B w w3 zb m2 P2 D2 { aau s.P with mn:=P2.minors,mj:=P2.majors } (aax (abk s.T here2) s.T (j+1)) s.T.length xw (aax here2 s.here (j+1)) (aax (abh s here2 rs) s.known j)):=by rw[hw3];exact(za HZ3).keep (Below.refl _ _).drew
    have HCA4:Hid (Ca w.heap.size w3 zb w.heap.size (w.heap.size+1) gw wt a b c bits (.slice gr rs.length cr) f (.slice (some ⟨w.heap.size+1+1,0,none⟩) s.T.length s.T.length) rs (aat (rs++os)) ds):=by rw[hw3];exact(za HCA3).keep KeepHi.drew
    have HCB4:Hid (Cb w.heap.size w3 lb sm (abp (s.T.map Th.is) (aat (rs++os)))):=by rw[hw3];exact(za HCB3).keep KeepHi.drew
    clear hw3 HZ3 HCA3 HCB3 xh d1
    have hxl:xw.length=s.T.length*3:=(za HZ4).zr.wr.1
    obtain⟨gwa,cw,hvw⟩:=aaa (za HZ4).zr.wr
    obtain⟨gw1,c1,e1,_,p1,pf1⟩:=aa1 (za HZ4).zr.wr (j:=j*3) (by omega)
    obtain⟨gw2,c2,e2,_,p2,pf2⟩:=aa1 (za HZ4).zr.wr (j:=j*3+1) (by omega)
    obtain⟨gw3,c3,e3,_,p3,pf3⟩:=aa1 (za HZ4).zr.wr (j:=j*3+2) (by omega)
    have a2:=e1.symm.trans e2
    have a3:=e1.symm.trans e3
    injection a2 with a2
    injection a2 with a2
    injection a2 with a2
    injection a3 with a3
    injection a3 with a3
    injection a3 with a3
    subst a2 a3
    rw[List.getElem?_eq_getElem (by omega)] at p1 p2 p3
    have z2:w3.cell? ⟨zb,2,none⟩=some (.slice (some ⟨gw1,0,none⟩) s.T.length c1):=by rw[←e1];exact zd (za HZ4).zr.blk 2
    have hkl:(aax (abh s here2 rs) s.known j).length=s.T.length:=by rw[ad0 (za HLK),za HLK2]
    obtain⟨gka,ck,hvk⟩:=aaa (za HZ4).zr.kr
    obtain⟨kn0,hkn0⟩:∃kn0,(aax (abh s here2 rs) s.known j)[j]?=some kn0:=⟨_,List.getElem?_eq_getElem (by omega)⟩
    obtain⟨gk1,e4,_,k1,kf1⟩:=aa2 (za HZ4).zr.kr (i:=j) (x:=.bool kn0) (by rw[List.getElem?_map,hkn0];rfl) hvk
    subst e4
    have z4:w3.cell? ⟨zb,4,none⟩=some (.slice (some ⟨gk1,0,none⟩) (aax (abh s here2 rs) s.known j).length ck):=by rw[←hvk];exact zd (za HZ4).zr.blk 4
    have hlt5:(j:Int)<((aax (abh s here2 rs) s.known j).length:Int):=by rw[hkl];omega
    have gwl:gw1<w.heap.size:=(za HLOW) gw1 (Or.inr (Or.inr (Or.inl (by rw[e1];rfl))))
    have gkl:gk1<w.heap.size:=(za HLOW) gk1 (Or.inr (Or.inr (Or.inr (Or.inr (Or.inl (by rw[hvk];rfl))))))
    have hgk:gk1≠gw1:=fun e=>(aer (za HZ4).zr.kr (za HZ4).zr.wr (by decide)) gk1 (by rw[hvk];rfl) (by rw[e,e1];rfl)
    obtain⟨kv,hkv⟩:∃kv,kv=(decide (0<t.id)&&hb):=⟨_,rfl⟩
    have HK2:Hid ((abh s here2 rs)[j]?=some kv):=by
     show (abh s here2 rs)[j]?=some kv
     unfold abh
     rw[List.getElem?_map,List.getElem?_range hlt]
     show some (kf s here2 rs j)=_
     unfold kf
     rw[decide_eq_false (za HM),za HTT,za HH2,hkv]
     rfl
    have HEND:Hid (Zk B w ((((w3.drew.setCell ⟨gw1,j*3,none⟩ (.int .i64 4)).setCell ⟨gw1,j*3+1,none⟩ (.int .i64 (atV D2 t.id))).setCell ⟨gw1,j*3+2,none⟩ (.string ⟨#[]⟩)).setCell ⟨gk1,j,none⟩ (.bool kv)) zb m2 P2 D2 { aau s.P with mn:=P2.minors,mj:=P2.majors } (aax (abk s.T here2) s.T (j+1)) s.T.length (((xw.set (j*3) (.int .i64 4)).set (j*3+1) (.int .i64 (atV D2 t.id))).set (j*3+2) (.string ⟨#[]⟩)) (aax here2 s.here (j+1)) (aax (abh s here2 rs) s.known (j+1))∧Ca w.heap.size ((((w3.drew.setCell ⟨gw1,j*3,none⟩ (.int .i64 4)).setCell ⟨gw1,j*3+1,none⟩ (.int .i64 (atV D2 t.id))).setCell ⟨gw1,j*3+2,none⟩ (.string ⟨#[]⟩)).setCell ⟨gk1,j,none⟩ (.bool kv)) zb w.heap.size (w.heap.size+1) gw wt a b c bits (.slice gr rs.length cr) f (.slice (some ⟨w.heap.size+1+1,0,none⟩) s.T.length s.T.length) rs (aat (rs++os)) ds∧Cb w.heap.size ((((w3.drew.setCell ⟨gw1,j*3,none⟩ (.int .i64 4)).setCell ⟨gw1,j*3+1,none⟩ (.int .i64 (atV D2 t.id))).setCell ⟨gw1,j*3+2,none⟩ (.string ⟨#[]⟩)).setCell ⟨gk1,j,none⟩ (.bool kv)) lb sm (abp (s.T.map Th.is) (aat (rs++os)))):=by
     refine⟨?_,(za HCA4).keep ?_,(za HCB4).keep ?_⟩
     ·have:=(((za HZ4).keep (Below.refl _ _).drew).setWh e1 (j*3) (.int .i64 4) (.int .i64 (atV D2 t.id)) (.string ⟨#[]⟩)).setKnown hvk j kv
      rw[ain (za HLK) (za HK2)] at this
      exact this
     ·exact fun q hq _=>by rw[zo _ (by omega),zo _ (by omega),zo _ (by omega),zo _ (by omega)];rfl
     ·exact fun q hq _=>by rw[zo _ (by omega),zo _ (by omega),zo _ (by omega),zo _ (by omega)];rfl
    have HKV:=zc hkv
    have HHGK:=zc hgk
    clear hkv hkn0 hvk e1 e2 e3 hvw
    by_cases hp:0<t.id
    ·obtain⟨q1,_⟩:=(za HCM).pc.told (za HTT) (za HH2) hp
     rw[q1]
     have e:kv=hb:=by rw[za HKV,decide_eq_true hp];rfl
     subst e
     clear q1
     go_wp2_with fail
     refine ace (S:=fun w'=>w'.cell? ⟨w.heap.size,0,none⟩=some (.pointer (some ⟨zb,0,none⟩))∧w'.cell? ⟨zb,2,none⟩=some (.slice (some ⟨gw1,0,none⟩) s.T.length c1)∧w'.cell? ⟨zb,4,none⟩=some (.slice (some ⟨gk1,0,none⟩) (aax (abh s here2 rs) s.known j).length ck)∧w'.cell? ⟨tb3,2,none⟩=some (.int .i64 t.id)∧w'.cell? ⟨zb,3,none⟩=some (.slice (some ⟨gh,0,none⟩) (aax here2 s.here (j+1)).length ch)∧w'.cell? ⟨gh,j,none⟩=some (.bool kv)) 27 (by kernel_rfl) ⟨x0,z2,z4,t2,x3,y3⟩ (fun hHeld=>?_)
     refine aal (i:=0) (cs:=[1,2,3,26,27]) (oi:={ dst:=some 244,op:=_,type:=_,pos:=_,after:=_,guard:=_ }) (v:=?_) rfl (by kernel_rfl) (by kernel_rfl) (by kernel_rfl) (by rfl) (by kernel_rfl) (fun _ _ _ h=>h) (Or.inl ⟨by rfl,?_⟩) (by assumption) ?_
     case refine_2 =>
      intro w hSw
      try dsimp only at hSw
      go_simp
      try with_reducible rfl
     simp only[Act.put,sA,sB,sC]
     refine zn (i:=1) (oi:={ dst:=some 245,op:=_,type:=_,pos:=_,after:=_,guard:=_ }) (v:=?_) rfl (by kernel_rfl) (by kernel_rfl) (by kernel_rfl) (by rfl) (fun _ _ _ h=>h) (Or.inl ⟨by rfl,?_⟩) (by assumption) ?_
     case refine_2 =>
      intro w hSw
      try dsimp only at hSw
      go_simp
      try with_reducible rfl
     simp only[Act.put,sA,sB,sC]
     refine zn (i:=2) (oi:={ dst:=some 246,op:=_,type:=_,pos:=_,after:=_,guard:=_ }) (v:=?_) rfl (by kernel_rfl) (by kernel_rfl) (by kernel_rfl) (by rfl) (fun _ _ _ h=>h) (Or.inl ⟨by rfl,?_⟩) (by assumption) ?_
     case refine_2 =>
      intro w hSw
      try dsimp only at hSw
      go_simp
      try with_reducible rfl
     simp only[Act.put,sA,sB,sC]
     refine aal (i:=3) (cs:=[26,27]) (oi:={ dst:=some 247,op:=_,type:=_,pos:=_,after:=_,guard:=_ }) (v:=?_) rfl (by kernel_rfl) (by kernel_rfl) (by kernel_rfl) (by rfl) (by kernel_rfl) (fun _ _ _ h=>h) (Or.inl ⟨by rfl,?_⟩) (by assumption) ?_
     case refine_2 =>
      intro w hSw
      try dsimp only at hSw
      go_simp
      try with_reducible rfl
     simp only[Act.put,sA,sB,sC]
     refine zn (i:=4) (oi:={ dst:=some 248,op:=_,type:=_,pos:=_,after:=_,guard:=_ }) (v:=?_) rfl (by kernel_rfl) (by kernel_rfl) (by kernel_rfl) (by rfl) (fun _ _ _ h=>h) (Or.inl ⟨by rfl,?_⟩) (by assumption) ?_
     case refine_2 =>
      intro w hSw
      try dsimp only at hSw
      go_simp
      try with_reducible rfl
     simp only[Act.put,sA,sB,sC]
     refine aal (i:=5) (cs:=[6,7,8,27]) (oi:={ dst:=some 249,op:=_,type:=_,pos:=_,after:=_,guard:=_ }) (v:=?_) rfl (by kernel_rfl) (by kernel_rfl) (by kernel_rfl) (by rfl) (by kernel_rfl) (fun _ _ _ h=>h) (Or.inl ⟨by rfl,?_⟩) (by assumption) ?_
     case refine_2 =>
      intro w hSw
      try dsimp only at hSw
      go_simp
      try with_reducible rfl
     simp only[Act.put,sA,sB,sC]
     refine zn (i:=6) (oi:={ dst:=some 250,op:=_,type:=_,pos:=_,after:=_,guard:=_ }) (v:=?_) rfl (by kernel_rfl) (by kernel_rfl) (by kernel_rfl) (by rfl) (fun _ _ _ h=>h) (Or.inl ⟨by rfl,?_⟩) (by assumption) ?_
     case refine_2 =>
      intro w hSw
      try dsimp only at hSw
      go_simp
      try with_reducible rfl
     simp only[Act.put,sA,sB,sC]
     refine zn (i:=7) (oi:={ dst:=some 251,op:=_,type:=_,pos:=_,after:=_,guard:=_ }) (v:=?_) rfl (by kernel_rfl) (by kernel_rfl) (by kernel_rfl) (by rfl) (fun _ _ _ h=>h) (Or.inl ⟨by rfl,?_⟩) (by assumption) ?_
     case refine_2 =>
      intro w hSw
      try dsimp only at hSw
      go_simp
      try with_reducible rfl
     simp only[Act.put,sA,sB,sC]
     refine aal (i:=8) (cs:=[27]) (oi:={ dst:=some 252,op:=_,type:=_,pos:=_,after:=_,guard:=_ }) (v:=?_) rfl (by kernel_rfl) (by kernel_rfl) (by kernel_rfl) (by rfl) (by kernel_rfl) (fun _ _ _ h=>h) (Or.inl ⟨by rfl,?_⟩) (by assumption) ?_
     case refine_2 =>
      intro w hSw
      try dsimp only at hSw
      go_simp
      try with_reducible rfl
     simp only[Act.put,sA,sB,sC]
     refine zn (i:=9) (oi:={ dst:=some 253,op:=_,type:=_,pos:=_,after:=_,guard:=_ }) (v:=?_) rfl (by kernel_rfl) (by kernel_rfl) (by kernel_rfl) (by rfl) (fun _ _ _ h=>h) (Or.inl ⟨by rfl,?_⟩) (by assumption) ?_
     case refine_2 =>
      intro w hSw
      try dsimp only at hSw
      go_simp
      try with_reducible rfl
     simp only[Act.put,sA,sB,sC]
     refine zn (i:=10) (oi:={ dst:=some 254,op:=_,type:=_,pos:=_,after:=_,guard:=_ }) (v:=?_) rfl (by kernel_rfl) (by kernel_rfl) (by kernel_rfl) (by rfl) (fun _ _ _ h=>h) (Or.inl ⟨by rfl,?_⟩) (by assumption) ?_
     case refine_2 =>
      intro w hSw
      try dsimp only at hSw
      go_simp
      try with_reducible rfl
     simp only[Act.put,sA,sB,sC]
     refine zn (i:=11) (oi:={ dst:=some 255,op:=_,type:=_,pos:=_,after:=_,guard:=_ }) (v:=?_) rfl (by kernel_rfl) (by kernel_rfl) (by kernel_rfl) (by rfl) (fun _ _ _ h=>h) (Or.inl ⟨by rfl,?_⟩) (by assumption) ?_
     case refine_2 =>
      intro w hSw
      try dsimp only at hSw
      go_simp
      try with_reducible rfl
     simp only[Act.put,sA,sB,sC]
     refine zn (i:=12) (oi:={ dst:=some 256,op:=_,type:=_,pos:=_,after:=_,guard:=_ }) (v:=?_) rfl (by kernel_rfl) (by kernel_rfl) (by kernel_rfl) (by rfl) (fun _ _ _ h=>h) (Or.inl ⟨by rfl,?_⟩) (by assumption) ?_
     case refine_2 =>
      intro w hSw
      try dsimp only at hSw
      go_simp
      try with_reducible rfl
     simp only[Act.put,sA,sB,sC]
     refine zn (i:=13) (oi:={ dst:=some 257,op:=_,type:=_,pos:=_,after:=_,guard:=_ }) (v:=?_) rfl (by kernel_rfl) (by kernel_rfl) (by kernel_rfl) (by rfl) (fun _ _ _ h=>h) (Or.inl ⟨by rfl,?_⟩) (by assumption) ?_
     case refine_2 =>
      intro w hSw
      try dsimp only at hSw
      go_simp
      try with_reducible rfl
     simp only[Act.put,sA,sB,sC]
     refine zn (i:=14) (oi:={ dst:=some 258,op:=_,type:=_,pos:=_,after:=_,guard:=_ }) (v:=?_) rfl (by kernel_rfl) (by kernel_rfl) (by kernel_rfl) (by rfl) (fun _ _ _ h=>h) (Or.inl ⟨by rfl,?_⟩) (by assumption) ?_
     case refine_2 =>
      intro w hSw
      try dsimp only at hSw
      go_simp
      try with_reducible rfl
     simp only[Act.put,sA,sB,sC]
     refine aal (i:=15) (cs:=[27]) (oi:={ dst:=some 259,op:=_,type:=_,pos:=_,after:=_,guard:=_ }) (v:=?_) rfl (by kernel_rfl) (by kernel_rfl) (by kernel_rfl) (by rfl) (by kernel_rfl) (fun _ _ _ h=>h) (Or.inl ⟨by rfl,?_⟩) (by assumption) ?_
     case refine_2 =>
      intro w hSw
      try dsimp only at hSw
      go_simp
      try with_reducible rfl
     simp only[Act.put,sA,sB,sC]
     refine zn (i:=16) (oi:={ dst:=some 260,op:=_,type:=_,pos:=_,after:=_,guard:=_ }) (v:=?_) rfl (by kernel_rfl) (by kernel_rfl) (by kernel_rfl) (by rfl) (fun _ _ _ h=>h) (Or.inl ⟨by rfl,?_⟩) (by assumption) ?_
     case refine_2 =>
      intro w hSw
      try dsimp only at hSw
      go_simp
      try with_reducible rfl
     simp only[Act.put,sA,sB,sC]
     refine zn (i:=17) (oi:={ dst:=some 261,op:=_,type:=_,pos:=_,after:=_,guard:=_ }) (v:=?_) rfl (by kernel_rfl) (by kernel_rfl) (by kernel_rfl) (by rfl) (fun _ _ _ h=>h) (Or.inl ⟨by rfl,?_⟩) (by assumption) ?_
     case refine_2 =>
      intro w hSw
      try dsimp only at hSw
      go_simp
      try with_reducible rfl
     simp only[Act.put,sA,sB,sC]
     refine aal (i:=18) (cs:=[19,20,21,27]) (oi:={ dst:=some 262,op:=_,type:=_,pos:=_,after:=_,guard:=_ }) (v:=?_) rfl (by kernel_rfl) (by kernel_rfl) (by kernel_rfl) (by rfl) (by kernel_rfl) (fun _ _ _ h=>h) (Or.inl ⟨by rfl,?_⟩) (by assumption) ?_
     case refine_2 =>
      intro w hSw
      try dsimp only at hSw
      go_simp
      try with_reducible rfl
     simp only[Act.put,sA,sB,sC]
     refine zn (i:=19) (oi:={ dst:=some 263,op:=_,type:=_,pos:=_,after:=_,guard:=_ }) (v:=?_) rfl (by kernel_rfl) (by kernel_rfl) (by kernel_rfl) (by rfl) (fun _ _ _ h=>h) (Or.inl ⟨by rfl,?_⟩) (by assumption) ?_
     case refine_2 =>
      intro w hSw
      try dsimp only at hSw
      go_simp
      try with_reducible rfl
     simp only[Act.put,sA,sB,sC]
     refine zn (i:=20) (oi:={ dst:=some 264,op:=_,type:=_,pos:=_,after:=_,guard:=_ }) (v:=?_) rfl (by kernel_rfl) (by kernel_rfl) (by kernel_rfl) (by rfl) (fun _ _ _ h=>h) (Or.inl ⟨by rfl,?_⟩) (by assumption) ?_
     case refine_2 =>
      intro w hSw
      try dsimp only at hSw
      go_simp
      try with_reducible rfl
     simp only[Act.put,sA,sB,sC]
     refine aal (i:=21) (cs:=[27]) (oi:={ dst:=some 265,op:=_,type:=_,pos:=_,after:=_,guard:=_ }) (v:=?_) rfl (by kernel_rfl) (by kernel_rfl) (by kernel_rfl) (by rfl) (by kernel_rfl) (fun _ _ _ h=>h) (Or.inl ⟨by rfl,?_⟩) (by assumption) ?_
     case refine_2 =>
      intro w hSw
      try dsimp only at hSw
      go_simp
      try with_reducible rfl
     simp only[Act.put,sA,sB,sC]
     refine zn (i:=22) (oi:={ dst:=some 266,op:=_,type:=_,pos:=_,after:=_,guard:=_ }) (v:=?_) rfl (by kernel_rfl) (by kernel_rfl) (by kernel_rfl) (by rfl) (fun _ _ _ h=>h) (Or.inl ⟨by rfl,?_⟩) (by assumption) ?_
     case refine_2 =>
      intro w hSw
      try dsimp only at hSw
      go_simp
      try with_reducible rfl
     simp only[Act.put,sA,sB,sC]
     refine zn (i:=23) (oi:={ dst:=some 267,op:=_,type:=_,pos:=_,after:=_,guard:=_ }) (v:=?_) rfl (by kernel_rfl) (by kernel_rfl) (by kernel_rfl) (by rfl) (fun _ _ _ h=>h) (Or.inl ⟨by rfl,?_⟩) (by assumption) ?_
     case refine_2 =>
      intro w hSw
      try dsimp only at hSw
      go_simp
      try with_reducible rfl
     simp only[Act.put,sA,sB,sC]
     refine aal (i:=24) (cs:=[27]) (oi:={ dst:=some 268,op:=_,type:=_,pos:=_,after:=_,guard:=_ }) (v:=?_) rfl (by kernel_rfl) (by kernel_rfl) (by kernel_rfl) (by rfl) (by kernel_rfl) (fun _ _ _ h=>h) (Or.inl ⟨by rfl,?_⟩) (by assumption) ?_
     case refine_2 =>
      intro w hSw
      try dsimp only at hSw
      go_simp
      try with_reducible rfl
     simp only[Act.put,sA,sB,sC]
     refine zn (i:=25) (oi:={ dst:=some 269,op:=_,type:=_,pos:=_,after:=_,guard:=_ }) (v:=?_) rfl (by kernel_rfl) (by kernel_rfl) (by kernel_rfl) (by rfl) (fun _ _ _ h=>h) (Or.inl ⟨by rfl,?_⟩) (by assumption) ?_
     case refine_2 =>
      intro w hSw
      try dsimp only at hSw
      go_simp
      try with_reducible rfl
     simp only[Act.put,sA,sB,sC]
     refine zn (i:=26) (oi:={ dst:=some 270,op:=_,type:=_,pos:=_,after:=_,guard:=_ }) (v:=?_) rfl (by kernel_rfl) (by kernel_rfl) (by kernel_rfl) (by rfl) (fun _ _ _ h=>h) (Or.inl ⟨by rfl,?_⟩) (by assumption) ?_
     case refine_2 =>
      intro w hSw
      try dsimp only at hSw
      go_simp
      try with_reducible rfl
     simp only[Act.put,sA,sB,sC]
     refine acp (o:={ dst:=none,op:=_,type:=_,pos:=_,after:=_,guard:=_ }) (by kernel_rfl) rfl (fun K hK=>?_)
     go_simp
     refine hK.out _ _ ?_
     clear hK K
     refine wpAny_take (i:=28) (oi:={ dst:=some 271,op:=_,type:=_,pos:=_,after:=_,guard:=_ }) (v:=?_) rfl (by kernel_rfl) (by kernel_rfl) (by kernel_rfl) (fun _ _ _ h=>h) (Or.inl ⟨by rfl,?_⟩) ?_
     case refine_2 =>
      intro w
      go_simp
      try with_reducible rfl
     simp only[Act.put,sA,sB,sC]
     refine ad7 (i:=29) (o:={ dst:=none,op:=_,type:=_,pos:=_,after:=_,guard:=_ }) (by kernel_rfl) rfl (fun K hK=>?_)
     go_simp
     refine hK.out _ _ ?_
     clear hK K
     refine wpAny_done (by kernel_rfl) ?_ _
     go_wp2_with fail
     go_roundg (s.T.length-(j+1))
     case measure=>omega
     case rel=>exact⟨j+1,by omega,rfl,by go_num,_,(za HEND).1,(za HX).step (za HTT) (za HM) hxl,(za HEND).2.1,(za HEND).2.2⟩
    ·have hp2:decide (0<t.id)=false:=by simpa using hp
     have e:kv=false:=by rw[za HKV,hp2];rfl
     subst e
     go_wp2_with fail
     refine ace (S:=fun w'=>w'.cell? ⟨w.heap.size,0,none⟩=some (.pointer (some ⟨zb,0,none⟩))∧w'.cell? ⟨zb,2,none⟩=some (.slice (some ⟨gw1,0,none⟩) s.T.length c1)∧w'.cell? ⟨zb,4,none⟩=some (.slice (some ⟨gk1,0,none⟩) (aax (abh s here2 rs) s.known j).length ck)∧w'.cell? ⟨tb3,2,none⟩=some (.int .i64 t.id)∧w'.cell? ⟨zb,3,none⟩=some (.slice (some ⟨gh,0,none⟩) (aax here2 s.here (j+1)).length ch)∧w'.cell? ⟨gh,j,none⟩=some (.bool hb)) 27 (by kernel_rfl) ⟨x0,z2,z4,t2,x3,y3⟩ (fun hHeld=>?_)
     refine aal (i:=0) (cs:=[1,2,3,26,27]) (oi:={ dst:=some 244,op:=_,type:=_,pos:=_,after:=_,guard:=_ }) (v:=?_) rfl (by kernel_rfl) (by kernel_rfl) (by kernel_rfl) (by rfl) (by kernel_rfl) (fun _ _ _ h=>h) (Or.inl ⟨by rfl,?_⟩) (by assumption) ?_
     case refine_2 =>
      intro w hSw
      try dsimp only at hSw
      go_simp
      try with_reducible rfl
     simp only[Act.put,sA,sB,sC]
     refine zn (i:=1) (oi:={ dst:=some 245,op:=_,type:=_,pos:=_,after:=_,guard:=_ }) (v:=?_) rfl (by kernel_rfl) (by kernel_rfl) (by kernel_rfl) (by rfl) (fun _ _ _ h=>h) (Or.inl ⟨by rfl,?_⟩) (by assumption) ?_
     case refine_2 =>
      intro w hSw
      try dsimp only at hSw
      go_simp
      try with_reducible rfl
     simp only[Act.put,sA,sB,sC]
     refine zn (i:=2) (oi:={ dst:=some 246,op:=_,type:=_,pos:=_,after:=_,guard:=_ }) (v:=?_) rfl (by kernel_rfl) (by kernel_rfl) (by kernel_rfl) (by rfl) (fun _ _ _ h=>h) (Or.inl ⟨by rfl,?_⟩) (by assumption) ?_
     case refine_2 =>
      intro w hSw
      try dsimp only at hSw
      go_simp
      try with_reducible rfl
     simp only[Act.put,sA,sB,sC]
     refine aal (i:=3) (cs:=[26,27]) (oi:={ dst:=some 247,op:=_,type:=_,pos:=_,after:=_,guard:=_ }) (v:=?_) rfl (by kernel_rfl) (by kernel_rfl) (by kernel_rfl) (by rfl) (by kernel_rfl) (fun _ _ _ h=>h) (Or.inl ⟨by rfl,?_⟩) (by assumption) ?_
     case refine_2 =>
      intro w hSw
      try dsimp only at hSw
      go_simp
      try with_reducible rfl
     simp only[Act.put,sA,sB,sC]
     refine zn (i:=4) (oi:={ dst:=some 248,op:=_,type:=_,pos:=_,after:=_,guard:=_ }) (v:=?_) rfl (by kernel_rfl) (by kernel_rfl) (by kernel_rfl) (by rfl) (fun _ _ _ h=>h) (Or.inl ⟨by rfl,?_⟩) (by assumption) ?_
     case refine_2 =>
      intro w hSw
      try dsimp only at hSw
      go_simp
      try with_reducible rfl
     simp only[Act.put,sA,sB,sC]
     refine aal (i:=5) (cs:=[6,7,8,27]) (oi:={ dst:=some 249,op:=_,type:=_,pos:=_,after:=_,guard:=_ }) (v:=?_) rfl (by kernel_rfl) (by kernel_rfl) (by kernel_rfl) (by rfl) (by kernel_rfl) (fun _ _ _ h=>h) (Or.inl ⟨by rfl,?_⟩) (by assumption) ?_
     case refine_2 =>
      intro w hSw
      try dsimp only at hSw
      go_simp
      try with_reducible rfl
     simp only[Act.put,sA,sB,sC]
     refine zn (i:=6) (oi:={ dst:=some 250,op:=_,type:=_,pos:=_,after:=_,guard:=_ }) (v:=?_) rfl (by kernel_rfl) (by kernel_rfl) (by kernel_rfl) (by rfl) (fun _ _ _ h=>h) (Or.inl ⟨by rfl,?_⟩) (by assumption) ?_
     case refine_2 =>
      intro w hSw
      try dsimp only at hSw
      go_simp
      try with_reducible rfl
     simp only[Act.put,sA,sB,sC]
     refine zn (i:=7) (oi:={ dst:=some 251,op:=_,type:=_,pos:=_,after:=_,guard:=_ }) (v:=?_) rfl (by kernel_rfl) (by kernel_rfl) (by kernel_rfl) (by rfl) (fun _ _ _ h=>h) (Or.inl ⟨by rfl,?_⟩) (by assumption) ?_
     case refine_2 =>
      intro w hSw
      try dsimp only at hSw
      go_simp
      try with_reducible rfl
     simp only[Act.put,sA,sB,sC]
     refine aal (i:=8) (cs:=[27]) (oi:={ dst:=some 252,op:=_,type:=_,pos:=_,after:=_,guard:=_ }) (v:=?_) rfl (by kernel_rfl) (by kernel_rfl) (by kernel_rfl) (by rfl) (by kernel_rfl) (fun _ _ _ h=>h) (Or.inl ⟨by rfl,?_⟩) (by assumption) ?_
     case refine_2 =>
      intro w hSw
      try dsimp only at hSw
      go_simp
      try with_reducible rfl
     simp only[Act.put,sA,sB,sC]
     refine zn (i:=9) (oi:={ dst:=some 253,op:=_,type:=_,pos:=_,after:=_,guard:=_ }) (v:=?_) rfl (by kernel_rfl) (by kernel_rfl) (by kernel_rfl) (by rfl) (fun _ _ _ h=>h) (Or.inl ⟨by rfl,?_⟩) (by assumption) ?_
     case refine_2 =>
      intro w hSw
      try dsimp only at hSw
      go_simp
      try with_reducible rfl
     simp only[Act.put,sA,sB,sC]
     refine zn (i:=10) (oi:={ dst:=some 254,op:=_,type:=_,pos:=_,after:=_,guard:=_ }) (v:=?_) rfl (by kernel_rfl) (by kernel_rfl) (by kernel_rfl) (by rfl) (fun _ _ _ h=>h) (Or.inl ⟨by rfl,?_⟩) (by assumption) ?_
     case refine_2 =>
      intro w hSw
      try dsimp only at hSw
      go_simp
      try with_reducible rfl
     simp only[Act.put,sA,sB,sC]
     refine zn (i:=11) (oi:={ dst:=some 255,op:=_,type:=_,pos:=_,after:=_,guard:=_ }) (v:=?_) rfl (by kernel_rfl) (by kernel_rfl) (by kernel_rfl) (by rfl) (fun _ _ _ h=>h) (Or.inl ⟨by rfl,?_⟩) (by assumption) ?_
     case refine_2 =>
      intro w hSw
      try dsimp only at hSw
      go_simp
      try with_reducible rfl
     simp only[Act.put,sA,sB,sC]
     refine zn (i:=12) (oi:={ dst:=some 256,op:=_,type:=_,pos:=_,after:=_,guard:=_ }) (v:=?_) rfl (by kernel_rfl) (by kernel_rfl) (by kernel_rfl) (by rfl) (fun _ _ _ h=>h) (Or.inl ⟨by rfl,?_⟩) (by assumption) ?_
     case refine_2 =>
      intro w hSw
      try dsimp only at hSw
      go_simp
      try with_reducible rfl
     simp only[Act.put,sA,sB,sC]
     refine zn (i:=13) (oi:={ dst:=some 257,op:=_,type:=_,pos:=_,after:=_,guard:=_ }) (v:=?_) rfl (by kernel_rfl) (by kernel_rfl) (by kernel_rfl) (by rfl) (fun _ _ _ h=>h) (Or.inl ⟨by rfl,?_⟩) (by assumption) ?_
     case refine_2 =>
      intro w hSw
      try dsimp only at hSw
      go_simp
      try with_reducible rfl
     simp only[Act.put,sA,sB,sC]
     refine zn (i:=14) (oi:={ dst:=some 258,op:=_,type:=_,pos:=_,after:=_,guard:=_ }) (v:=?_) rfl (by kernel_rfl) (by kernel_rfl) (by kernel_rfl) (by rfl) (fun _ _ _ h=>h) (Or.inl ⟨by rfl,?_⟩) (by assumption) ?_
     case refine_2 =>
      intro w hSw
      try dsimp only at hSw
      go_simp
      try with_reducible rfl
     simp only[Act.put,sA,sB,sC]
     refine aal (i:=15) (cs:=[27]) (oi:={ dst:=some 259,op:=_,type:=_,pos:=_,after:=_,guard:=_ }) (v:=?_) rfl (by kernel_rfl) (by kernel_rfl) (by kernel_rfl) (by rfl) (by kernel_rfl) (fun _ _ _ h=>h) (Or.inl ⟨by rfl,?_⟩) (by assumption) ?_
     case refine_2 =>
      intro w hSw
      try dsimp only at hSw
      go_simp
      try with_reducible rfl
     simp only[Act.put,sA,sB,sC]
     refine zn (i:=16) (oi:={ dst:=some 260,op:=_,type:=_,pos:=_,after:=_,guard:=_ }) (v:=?_) rfl (by kernel_rfl) (by kernel_rfl) (by kernel_rfl) (by rfl) (fun _ _ _ h=>h) (Or.inl ⟨by rfl,?_⟩) (by assumption) ?_
     case refine_2 =>
      intro w hSw
      try dsimp only at hSw
      go_simp
      try with_reducible rfl
     simp only[Act.put,sA,sB,sC]
     refine zn (i:=17) (oi:={ dst:=some 261,op:=_,type:=_,pos:=_,after:=_,guard:=_ }) (v:=?_) rfl (by kernel_rfl) (by kernel_rfl) (by kernel_rfl) (by rfl) (fun _ _ _ h=>h) (Or.inl ⟨by rfl,?_⟩) (by assumption) ?_
     case refine_2 =>
      intro w hSw
      try dsimp only at hSw
      go_simp
      try with_reducible rfl
     simp only[Act.put,sA,sB,sC]
     refine zn (i:=18) (oi:={ dst:=some 262,op:=_,type:=_,pos:=_,after:=_,guard:=_ }) (v:=undef) rfl (by kernel_rfl) (by kernel_rfl) (by kernel_rfl) (by rfl) (fun _ _ _ h=>h) (Or.inr ⟨by rfl,rfl⟩) (by assumption) ?_
     simp only[Act.put,sA,sB,sC]
     refine zn (i:=19) (oi:={ dst:=some 263,op:=_,type:=_,pos:=_,after:=_,guard:=_ }) (v:=undef) rfl (by kernel_rfl) (by kernel_rfl) (by kernel_rfl) (by rfl) (fun _ _ _ h=>h) (Or.inr ⟨by rfl,rfl⟩) (by assumption) ?_
     simp only[Act.put,sA,sB,sC]
     refine zn (i:=20) (oi:={ dst:=some 264,op:=_,type:=_,pos:=_,after:=_,guard:=_ }) (v:=undef) rfl (by kernel_rfl) (by kernel_rfl) (by kernel_rfl) (by rfl) (fun _ _ _ h=>h) (Or.inr ⟨by rfl,rfl⟩) (by assumption) ?_
     simp only[Act.put,sA,sB,sC]
     refine zn (i:=21) (oi:={ dst:=some 265,op:=_,type:=_,pos:=_,after:=_,guard:=_ }) (v:=undef) rfl (by kernel_rfl) (by kernel_rfl) (by kernel_rfl) (by rfl) (fun _ _ _ h=>h) (Or.inr ⟨by rfl,rfl⟩) (by assumption) ?_
     simp only[Act.put,sA,sB,sC]
     refine zn (i:=22) (oi:={ dst:=some 266,op:=_,type:=_,pos:=_,after:=_,guard:=_ }) (v:=undef) rfl (by kernel_rfl) (by kernel_rfl) (by kernel_rfl) (by rfl) (fun _ _ _ h=>h) (Or.inr ⟨by rfl,rfl⟩) (by assumption) ?_
     simp only[Act.put,sA,sB,sC]
     refine zn (i:=23) (oi:={ dst:=some 267,op:=_,type:=_,pos:=_,after:=_,guard:=_ }) (v:=undef) rfl (by kernel_rfl) (by kernel_rfl) (by kernel_rfl) (by rfl) (fun _ _ _ h=>h) (Or.inr ⟨by rfl,rfl⟩) (by assumption) ?_
     simp only[Act.put,sA,sB,sC]
     refine zn (i:=24) (oi:={ dst:=some 268,op:=_,type:=_,pos:=_,after:=_,guard:=_ }) (v:=undef) rfl (by kernel_rfl) (by kernel_rfl) (by kernel_rfl) (by rfl) (fun _ _ _ h=>h) (Or.inr ⟨by rfl,rfl⟩) (by assumption) ?_
     simp only[Act.put,sA,sB,sC]
     refine zn (i:=25) (oi:={ dst:=some 269,op:=_,type:=_,pos:=_,after:=_,guard:=_ }) (v:=?_) rfl (by kernel_rfl) (by kernel_rfl) (by kernel_rfl) (by rfl) (fun _ _ _ h=>h) (Or.inl ⟨by rfl,?_⟩) (by assumption) ?_
     case refine_2 =>
      intro w hSw
      try dsimp only at hSw
      go_simp
      try with_reducible rfl
     simp only[Act.put,sA,sB,sC]
     refine zn (i:=26) (oi:={ dst:=some 270,op:=_,type:=_,pos:=_,after:=_,guard:=_ }) (v:=?_) rfl (by kernel_rfl) (by kernel_rfl) (by kernel_rfl) (by rfl) (fun _ _ _ h=>h) (Or.inl ⟨by rfl,?_⟩) (by assumption) ?_
     case refine_2 =>
      intro w hSw
      try dsimp only at hSw
      go_simp
      try with_reducible rfl
     simp only[Act.put,sA,sB,sC]
     refine acp (o:={ dst:=none,op:=_,type:=_,pos:=_,after:=_,guard:=_ }) (by kernel_rfl) rfl (fun K hK=>?_)
     go_simp
     refine hK.out _ _ ?_
     clear hK K
     refine wpAny_take (i:=28) (oi:={ dst:=some 271,op:=_,type:=_,pos:=_,after:=_,guard:=_ }) (v:=?_) rfl (by kernel_rfl) (by kernel_rfl) (by kernel_rfl) (fun _ _ _ h=>h) (Or.inl ⟨by rfl,?_⟩) ?_
     case refine_2 =>
      intro w
      go_simp
      try with_reducible rfl
     simp only[Act.put,sA,sB,sC]
     refine ad7 (i:=29) (o:={ dst:=none,op:=_,type:=_,pos:=_,after:=_,guard:=_ }) (by kernel_rfl) rfl (fun K hK=>?_)
     go_simp
     refine hK.out _ _ ?_
     clear hK K
     refine wpAny_done (by kernel_rfl) ?_ _
     go_wp2_with fail
     go_roundg (s.T.length-(j+1))
     case measure=>omega
     case rel=>exact⟨j+1,by omega,rfl,by go_num,_,(za HEND).1,(za HX).step (za HTT) (za HM) hxl,(za HEND).2.1,(za HEND).2.2⟩
  ·obtain rfl:j=s.T.length:=by omega
   have hlt2:decide ((s.T.length:Int)<(s.T.length:Int))=false:=by simp
   have HZE:Hid (Zk B w wr.drew zb m2 P2 D2 { aau s.P with mn:=P2.minors,mj:=P2.majors } (abk s.T here2) s.T.length xw here2 (abh s here2 rs)):=by
    have:=(za HZ).keep (Below.refl _ _).drew
    rw[aio (za HLT) rfl,aio (za HLH) (za HLH2).symm,aio (za HLK) (za HLK2).symm] at this
    exact this
   have z0d:wr.drew.cell? ⟨w.heap.size,0,none⟩=some (.pointer (some ⟨zb,0,none⟩)):=z0
   obtain⟨vO,HC,HE⟩:∃vO:Int,Hid (Calls prog 36 #[.func (.func 41) #[] #[],.pointer (some ⟨w.heap.size,0,none⟩)] wr.drew fun e w'=>e=.returned (.int .i64 vO)∧w'=wr.drew)∧Hid (ZNext B (k+1) zb w ((wr.drew.setCell ⟨zb,7,none⟩ (.int .i64 0)).setCell ⟨zb,8,none⟩ (.int .i64 vO))):=⟨_,zc (aoy (za HCM).pc hTl (za HZE) z0d),zc (col_end (za HZA) (za HCM).sm.hp (za HCM).pc (za HCM).fw (za HCM).rr (za HX) (za HZE))⟩
   have c7:=zd (za HZE).zr.blk 7
   have c8:wr.cell? ⟨zb,8,none⟩=some (.int .i64 (aau s.P).old):=zd (za HZE).zr.blk 8
   have f7:=zt (za HZE).zr.blk 7
   have f8:wr.frozen? ⟨zb,8,none⟩=false:=zt (za HZE).zr.blk 8
   have HS7:Hid ((wr.drew.setCell ⟨zb,7,none⟩ (.int .i64 0)).cell? ⟨w.heap.size,0,none⟩=some (.pointer (some ⟨zb,0,none⟩))):=zd ((za HCA).keep (KeepHi.drew.trans (KeepHi.set hzl) (Nat.le_refl _))).bz' 0
   have ent41:∀w0:World,Sem.run prog (callFunc 36 #[.func (.func 41) #[] #[],.pointer (some ⟨w.heap.size,0,none⟩)]) w0=.ok (.enter 36 #[.func (.func 41) #[] #[],.pointer (some ⟨w.heap.size,0,none⟩)]) w0:=fun _=>by kernel_rfl
   clear hlt z0d
   go_wp2_with fail
   refine ace (S:=fun w'=>w'.cell? ⟨w.heap.size,0,none⟩=some (.pointer (some ⟨zb,0,none⟩))) 9 (by kernel_rfl) z0 (fun hHeld=>?_)
   refine aal (i:=0) (cs:=[9]) (oi:={ dst:=some 272,op:=_,type:=_,pos:=_,after:=_,guard:=_ }) (v:=?_) rfl (by kernel_rfl) (by kernel_rfl) (by kernel_rfl) (by rfl) (by kernel_rfl) (fun _ _ _ h=>h) (Or.inl ⟨by rfl,?_⟩) (by assumption) ?_
   case refine_2 =>
    intro w hSw
    try dsimp only at hSw
    go_simp
    try with_reducible rfl
   simp only[Act.put,sA,sB,sC]
   refine aal (i:=1) (cs:=[9]) (oi:={ dst:=some 273,op:=_,type:=_,pos:=_,after:=_,guard:=_ }) (v:=?_) rfl (by kernel_rfl) (by kernel_rfl) (by kernel_rfl) (by rfl) (by kernel_rfl) (fun _ _ _ h=>h) (Or.inl ⟨by rfl,?_⟩) (by assumption) ?_
   case refine_2 =>
    intro w hSw
    try dsimp only at hSw
    go_simp
    try with_reducible rfl
   simp only[Act.put,sA,sB,sC]
   refine zn (i:=2) (oi:={ dst:=some 274,op:=_,type:=_,pos:=_,after:=_,guard:=_ }) (v:=?_) rfl (by kernel_rfl) (by kernel_rfl) (by kernel_rfl) (by rfl) (fun _ _ _ h=>h) (Or.inl ⟨by rfl,?_⟩) (by assumption) ?_
   case refine_2 =>
    intro w hSw
    try dsimp only at hSw
    go_simp
    try with_reducible rfl
   simp only[Act.put,sA,sB,sC]
   refine abq (i:=3) (o:={ dst:=some 275,op:=_,type:=_,pos:=_,after:=_,guard:=_ }) (by kernel_rfl) rfl (fun K hK=>?_)
   refine aaq (by kernel_rfl) (by simp[Act.eval,ent41,go_sem]) ((za HC).mono ?_)
   rintro e w4 ⟨rfl,rfl⟩
   dsimp only
   refine hK.out _ _ hHeld (fun hHeld2=>?_)
   clear hK K
   simp only[Act.put,sA,sB,sC]
   refine zn (i:=4) (oi:={ dst:=some 276,op:=_,type:=_,pos:=_,after:=_,guard:=_ }) (v:=?_) rfl (by kernel_rfl) (by kernel_rfl) (by kernel_rfl) (by rfl) (fun _ _ _ h=>h) (Or.inl ⟨by rfl,?_⟩) (by assumption) ?_
   case refine_2 =>
    intro w hSw
    try dsimp only at hSw
    go_simp
    try with_reducible rfl
   simp only[Act.put,sA,sB,sC]
   refine zn (i:=5) (oi:={ dst:=some 277,op:=_,type:=_,pos:=_,after:=_,guard:=_ }) (v:=?_) rfl (by kernel_rfl) (by kernel_rfl) (by kernel_rfl) (by rfl) (fun _ _ _ h=>h) (Or.inl ⟨by rfl,?_⟩) (by assumption) ?_
   case refine_2 =>
    intro w hSw
    try dsimp only at hSw
    go_simp
    try with_reducible rfl
   simp only[Act.put,sA,sB,sC]
   refine abq (i:=6) (o:={ dst:=none,op:=_,type:=_,pos:=_,after:=_,guard:=_ }) (by kernel_rfl) rfl (fun K hK=>?_)
   go_simp
   refine hK.out _ _ (za HS7) (fun hHeld3=>?_)
   clear hK K
   refine zn (i:=7) (oi:={ dst:=some 278,op:=_,type:=_,pos:=_,after:=_,guard:=_ }) (v:=?_) rfl (by kernel_rfl) (by kernel_rfl) (by kernel_rfl) (by rfl) (fun _ _ _ h=>h) (Or.inl ⟨by rfl,?_⟩) (by assumption) ?_
   case refine_2 =>
    intro w hSw
    try dsimp only at hSw
    go_simp
    try with_reducible rfl
   simp only[Act.put,sA,sB,sC]
   refine zn (i:=8) (oi:={ dst:=some 279,op:=_,type:=_,pos:=_,after:=_,guard:=_ }) (v:=?_) rfl (by kernel_rfl) (by kernel_rfl) (by kernel_rfl) (by rfl) (fun _ _ _ h=>h) (Or.inl ⟨by rfl,?_⟩) (by assumption) ?_
   case refine_2 =>
    intro w hSw
    try dsimp only at hSw
    go_simp
    try with_reducible rfl
   simp only[Act.put,sA,sB,sC]
   refine acp (o:={ dst:=none,op:=_,type:=_,pos:=_,after:=_,guard:=_ }) (by kernel_rfl) rfl (fun K hK=>?_)
   go_simp
   refine hK.out _ _ ?_
   clear hK K
   refine wpAny_done (by kernel_rfl) ?_ _
   go_wp2_with fail
   go_ret
   exact⟨rfl,za HE⟩
end
end Go.Proofs.YtpnghfghdbijlaaGreatDoor
