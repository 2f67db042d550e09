/- A part. -/
import Derived.Test.YtpnghfghdbijlaaGreatDoorM32
open Go.Proofs.Tryz
namespace Go.Proofs.YtpnghfghdbijlaaGreatDoor
open Go.RowKit
set_option linter.unusedVariables false
set_option linter.unusedSimpArgs false
set_option maxRecDepth 100000
set_option maxHeartbeats 40000000
section
open Go.RowKit Go.Maps
def tellA (B k:Nat) (w:World) (zb:Nat) (m:ZM) (s:ZS):{ G:(Act→World→Prop)→Nat→(Act→World→Prop)→Option Addr→Nat→Nat→Nat→Int→(Act→World→Prop)→World→Int→Bool→Prop // ZAt B k w zb m s→(∀(K0:Act→World→Prop) (j:Nat) (K:Act→World→Prop) (gi:Option Addr) (n0 ci tb:Nat) (L2:Int) (K1:Act→World→Prop) (w3:World) (av:Int) (ok:Bool) (t:Th) (vi:Value) (hr kn:Bool),s.T[j]?=some t→m.bs[j]?=some tb→m.vis[j]?=some vi→s.here[j]?=some hr→s.known[j]?=some kn→L2=(idC (s.T.take (j+1)):Int)→(0≤t.id∧t.id≤61)→Tj w w3 s.T s.here j (.slice gi n0 ci)→av=atV s.D t.id→ok=Maps.has s.D (.int .i64 t.id)→(∀(a':Act) (wx:World) (vids:Value),a'.defers=[]∧a'.tmps.size=408∧a'.tmps.toList[0]?=some (.pointer (some ⟨zb,0,none⟩))∧a'.tmps.toList[3]?=some (.int .i64 L2)∧a'.tmps.toList[4]?=some vids∧a'.tmps.toList[5]?=some (.int .i64 (j:Int))∧Tj w wx s.T s.here (j+1) vids→K1 a' wx)→G K0 j K gi n0 ci tb L2 K1 w3 av ok)→Calls prog 9 #[.pointer (some ⟨zb,0,none⟩)] w fun e w'=>e=.returned (.bool true)∧Below w.heap.size w w' }:=by
 apply Subtype.mk
 case property =>
  intro h hround
  have HR1:=zc hround
  clear hround
  have hq:=aco
  obtain⟨gt,ct,hvt⟩:=aaa h.zr.th
  have hTl:s.T.length≤60:=by have:=h.fw.t;have:=h.fw.k60;omega
  have hKl:s.known.length=s.T.length:=h.zi.lk
  have hHl:s.here.length=s.T.length:=h.zi.rep.len
  have HZA:=zc h
  have HVT:=zc hvt
  have hIC:∀j:Nat,idC (s.T.take j)≤60:=fun j=>by
   have h1:idC (s.T.take j)≤(s.T.take j).length:=by unfold idC;exact List.length_filter_le _ _
   rw[List.length_take] at h1
   omega
  have HIC:=zc hIC
  clear h hvt hIC
  go_enter func9,ntmps9
  go_wp2_with fail
  rename_i K0 a0
  refine wp_loop_ghost_k (fun gg a' wx=>∃(L:Int) (vids:Value) (j:Nat),a'.defers=[]∧a'.tmps.size=408∧a'.tmps.toList[0]?=some (.pointer (some ⟨zb,0,none⟩))∧a'.tmps.toList[3]?=some (.int .i64 L)∧a'.tmps.toList[4]?=some vids∧a'.tmps.toList[5]?=some (.int .i64 (j:Int))∧j≤s.T.length∧gg=s.T.length-j∧Hid (L=(idC (s.T.take j):Int))∧Hid (Tj w wx s.T s.here j vids)) s.T.length ?atStart ?round
  case atStart=>exact⟨0,_,0,rfl,rfl,rfl,rfl,rfl,rfl,Nat.zero_le _,rfl,rfl,Tj.start⟩
  case round =>
   rintro gk a wr ⟨L,vids,j,hd,hs,h0,h3,h4,h5,hj,hg,HL,HJ⟩ J K aJ aK
   obtain⟨f,ha⟩:=ao5 hd hs h0 h3 h4 h5
   clear hd hs h0 h3 h4 h5
   subst ha
   subst hg
   obtain⟨gi,n0,ci,hvi,hn,hn0⟩:=(za HJ).form
   subst hvi
   have HN:=zc hn
   clear hn
   have hZ:=(za HZA).zr.keep (za HJ).bl
   have z1:wr.cell? ⟨zb,1,none⟩=some (.slice gt s.T.length ct):=by rw[←za HVT];exact zd hZ.blk 1
   have HZ:=zc hZ
   clear hZ
   by_cases hlt:j<s.T.length
   ·have hlt2:(j:Int)<(s.T.length:Int):=by omega
    obtain⟨t,ht⟩:∃t,s.T[j]?=some t:=⟨_,List.getElem?_eq_getElem hlt⟩
    obtain⟨tb,vi,hb1,hb2,hb3,hb4⟩:=(za HZ).thing ht
    obtain⟨gt0,e1,_,r1,_⟩:=aa2 (za HZ).th (i:=j) (x:=.pointer (some ⟨tb,0,none⟩)) (by rw[List.getElem?_map,hb1];rfl) (za HVT)
    subst e1
    obtain⟨hr,hhr⟩:∃hr,s.here[j]?=some hr:=⟨_,List.getElem?_eq_getElem (by rw[hHl];exact hlt)⟩
    obtain⟨kn,hkn⟩:∃kn,s.known[j]?=some kn:=⟨_,List.getElem?_eq_getElem (by rw[hKl];exact hlt)⟩
    have x0:wr.cell? ⟨zb,0,none⟩=some (.pointer (some ⟨m.hp,0,none⟩)):=zd (za HZ).blk 0
    have t2:wr.cell? ⟨tb,2,none⟩=some (.int .i64 t.id):=zd hb3 2
    have hid:=(za HZA).zi.ids j t ht
    have hic:=za HIC j
    have hid2:0≤t.id∧t.id≤61:=by omega
    obtain⟨L2,hL2⟩:∃L2:Int,L2=(idC (s.T.take (j+1)):Int):=⟨_,rfl⟩
    have HL2:=zc hL2
    have HMX:Hid (max L t.id=L2):=by
     show max L t.id=L2
     rw[za HL,hL2]
     exact ao3 hid ht
    clear hL2
    have HTT:=zc ht
    have HB1:=zc hb1
    have HB2:=zc hb2
    have HHR:=zc hhr
    have HKN:=zc hkn
    have HAT:=zc (at_id (w:=wr.drew) (((za HZA).hg.keep (za HJ).bl).keep (Below.refl _ _).drew) (x:=t.id) ⟨by omega,by omega⟩)
    clear ht hb1 hb2 hb3 hb4 hhr hkn hid
    go_wp2_with fail
    refine wp_cut (fun a' wx=>∃(av:Int) (ok:Bool),a'.defers=[]∧a'.tmps.size=408∧a'.tmps.toList[0]?=some (.pointer (some ⟨zb,0,none⟩))∧a'.tmps.toList[3]?=some (.int .i64 L2)∧a'.tmps.toList[4]?=some (.slice gi n0 ci)∧a'.tmps.toList[5]?=some (.int .i64 (j:Int))∧a'.tmps.toList[6]?=some (.pointer (some ⟨tb,0,none⟩))∧a'.tmps.toList[7]?=some (.int .i64 av)∧a'.tmps.toList[8]?=some (.bool ok)∧(Hid (av=atV s.D t.id)∧Hid (ok=Maps.has s.D (.int .i64 t.id))∧wx=wr.drew)) ?rest2 ?first2
    case first2 =>
     intro J K' aJ aK'
     have ent80:∀w:World,Sem.run prog (callFunc 20 #[.pointer (some ⟨m.hp,0,none⟩),.int .i64 t.id]) w=.ok (.enter 20 #[.pointer (some ⟨m.hp,0,none⟩),.int .i64 t.id]) w:=fun _=>by kernel_rfl
     refine wp_region_held_drew (S:=fun w'=>w'.cell? ⟨zb,0,none⟩=some (.pointer (some ⟨m.hp,0,none⟩))∧w'.cell? ⟨tb,2,none⟩=some (.int .i64 t.id)∧w'=wr.drew) (by kernel_rfl) ⟨x0,t2,rfl⟩ (fun hHeld=>?_)
     refine tka 0 47 rfl ?_
     refine tka 1 48 rfl ?_
     refine tka 2 49 rfl ?_
     refine tka 3 50 rfl ?_
     refine tka 4 51 rfl ?_
     refine tka 5 52 rfl ?_
     refine tka 6 53 rfl ?_
     refine tka 7 54 rfl ?_
     simp only[sA,sB,sC]
     refine wpAnyH_ready (rs:=[8]) (by kernel_rfl) (by simp) ?_
     refine AllReadyH.cons (o:={ dst:=some 55,op:=_,type:=_,pos:=_,after:=_,guard:=_ }) rfl (fun K hK=>?_) AllReadyH.nil
     refine aaq (by kernel_rfl) (by simp[Act.eval,ent80,go_sem]) ((za HAT).mono ?_)
     rintro e w4 ⟨⟨v,hv,rfl⟩,hw4⟩
     subst hw4
     have ev:v=atV s.D t.id:=by unfold atV;rw[hv]
     subst ev
     clear hv
     refine hK.out _ _ hHeld (fun hHeld8=>?_)
     clear hK K
     simp only[Act.put,sA,sB,sC]
     refine tka 9 46 rfl ?_
     refine tka 10 56 rfl ?_
     refine tka 11 57 rfl ?_
     refine tka 12 7 rfl ?_
     refine tka 13 8 rfl ?_
     simp only[sA,sB,sC]
     refine wpAnyH_done (by kernel_rfl) ?_ _
     go_wp2_with fail
     exact Met.intro (aJ _ _ ⟨_,_,rfl,rfl,rfl,by rw[←za HMX];rfl,rfl,rfl,rfl,rfl,rfl,⟨rfl,rfl,rfl⟩⟩)
    rintro a w3 ⟨av,ok,hd,hs,h0,h3,h4,h5,h6,h7,h8,HAV,HOK,hw3⟩
    obtain⟨f,ha⟩:=af7 hd hs h0 h3 h4 h5 h6 h7 h8
    clear hd hs h0 h3 h4 h5 h6 h7 h8
    subst ha
    have HJ3:Hid (Tj w w3 s.T s.here j (.slice gi n0 ci)):=by rw[hw3];exact(za HJ).keep (Below.refl _ _).drew
    rename_i K1 a1 K2 a2
    refine a2 _ _ ?_
    clear a2
    have hK1:(∀(a':Act) (wx:World) (vids:Value),a'.defers=[]∧a'.tmps.size=408∧a'.tmps.toList[0]?=some (.pointer (some ⟨zb,0,none⟩))∧a'.tmps.toList[3]?=some (.int .i64 L2)∧a'.tmps.toList[4]?=some vids∧a'.tmps.toList[5]?=some (.int .i64 (j:Int))∧Tj w wx s.T s.here (j+1) vids→K1 a' wx):=fun a' wx vids hh=>by
     obtain⟨hd,hs,h0,h3,h4,h5,hT'⟩:=hh
     have HT':=zc hT'
     obtain⟨f,ha⟩:=ao5 hd hs h0 h3 h4 h5
     clear hd hs h0 h3 h4 h5 hT'
     subst ha
     refine a1 _ _ ?_
     go_wp2_with fail
     refine Handed.intro (s.T.length-(j+1)) (by omega) (aJ _ _ _ ⟨L2,_,(j+1),rfl,rfl,rfl,rfl,rfl,rfl,?_⟩)
     exact⟨by omega,rfl,za HL2,za HT'⟩
    show Code.wp _ _ (Exit.inBlock 1 (Exit.then K1 (Exit.then K (Exit.inBlock 0 (Exit.then K0 (bodyPost prog Tryz.f9 fun e w'=>e=.returned (.bool true)∧Below w.heap.size w w')))))) _ _
    revert f
    exact za HR1 K0 j K gi n0 ci tb L2 K1 w3 av ok t vi hr kn (za HTT) (za HB1) (za HB2) (za HHR) (za HKN) (za HL2) hid2 (za HJ3) (za HAV) (za HOK) hK1
   ·obtain rfl:j=s.T.length:=by omega
    have hlt2:decide ((s.T.length:Int)<(s.T.length:Int))=false:=by simp
    obtain⟨a7,a8,a9,a10,HU,c7,c8,c9,c10⟩:∃a7 a8 a9 a10:Int,Hid (Calls prog 26 #[.pointer (some ⟨m.hp,0,none⟩)] wr fun e w'=>e=.returned (.tuple #[.int .i64 a7,.int .i64 a8,.int .i64 a9,.int .i64 a10])∧Below wr.heap.size wr w')∧wr.cell? ⟨zb,7,none⟩=some (.int .i64 a7)∧wr.cell? ⟨zb,8,none⟩=some (.int .i64 a8)∧wr.cell? ⟨zb,9,none⟩=some (.int .i64 a9)∧wr.cell? ⟨zb,10,none⟩=some (.int .i64 a10):=⟨_,_,_,_,zc (use_any ((za HZA).hg.keep (za HJ).bl)),zd (za HZ).blk 7,zd (za HZ).blk 8,zd (za HZ).blk 9,zd (za HZ).blk 10⟩
    have x0:wr.cell? ⟨zb,0,none⟩=some (.pointer (some ⟨m.hp,0,none⟩)):=zd (za HZ).blk 0
    have HLL:Hid (L=(idC s.T:Int)):=by
     have:=za HL
     rw[List.take_length] at this
     exact this
    have hLb:0≤L∧L≤60:=by
     have h1:=za HIC s.T.length
     have h2:=za HL
     omega
    have HAT:Hid (∀w1,Below wr.heap.size wr w1→∃v:Int,Calls prog 20 #[.pointer (some ⟨m.hp,0,none⟩),.int .i64 (L+1)] w1 fun e w'=>e=.returned (.tuple #[.int .i64 v,.bool false])∧w'=w1):=fun w1 hb=>by
     refine⟨atV s.D (L+1),(at_id (((za HZA).hg.keep (za HJ).bl).keep hb) (x:=L+1) ⟨by omega,by omega⟩).mono ?_⟩
     rintro e w' ⟨⟨v,hv,rfl⟩,hw⟩
     have ev:v=atV s.D (L+1):=by unfold atV;rw[hv]
     have hp:=(za HZA).zi.past
     rw[←za HLL] at hp
     rw[ev,hp]
     exact⟨rfl,hw⟩
    have HID:Hid (∀w1,Below wr.heap.size wr w1→Calls prog 27 #[.pointer (some ⟨m.hp,0,none⟩)] w1 fun e w'=>∃g c,e=.returned (.slice g n0 c)∧w'.ownsRow w1.heap.size 3 1 (.slice g n0 c) n0 ((ab3 s.T s.here).map iv)∧Below w1.heap.size w1 w'):=fun w1 hb=>by
     have hg:=((za HZA).hg.keep (za HJ).bl).keep hb
     have hln:n0=(ab3 s.T s.here).length:=by
      have:=za HN
      rw[List.take_length,show s.here.take s.T.length=s.here by rw[←hHl,List.take_length]] at this
      exact this
     refine(ids_row hg ?_).mono ?_
     ·exact by have:=hg.own.size_le;have:=(za HZA).fw.n;have:=(za HZA).fw.k60;omega
     ·rintro e w' ⟨v,ss,rfl,hp,ho,hb'⟩
      have e1:=(za HZA).zi.idsRow hg.own hp
      have e2:ss.length=n0:=by
       rw[hln,←e1,List.length_mergeSort]
      rw[e1,e2] at ho
      obtain⟨g,c,e3⟩:=aaa ho
      subst e3
      exact⟨g,c,rfl,ho,hb'⟩
    have HLA:Hid (∀w1,Below wr.heap.size wr w1→Calls prog 28 #[.pointer (some ⟨m.hp,0,none⟩)] w1 fun e w'=>e=.returned (.int .i64 L)∧w'=w1):=fun w1 hb=>by
     have:=aqb (((za HZA).hg.keep (za HJ).bl).keep hb).at'
     rw[(za HZA).zi.last,←za HLL] at this
     exact this
    have HOW:Hid (wr.ownsRow w.heap.size 3 1 (.slice gi n0 ci) n0 ((ab3 s.T s.here).map iv)):=by
     have h1:=(za HJ).ow
     have h2:=za HN
     rw[List.take_length,show s.here.take s.T.length=s.here by rw[←hHl,List.take_length]] at h1 h2
     rw[←h2] at h1
     exact h1
    have hnl:n0=(ab3 s.T s.here).length:=by
     have:=(za HOW).1
     simp at this
     omega
    have HNL:=zc hnl
    clear hlt hnl
    go_wp2_with fail
    refine(za HU).mono ?_
    rintro e w2 ⟨rfl,hb2⟩
    have HB2:=zc hb2
    have x2:w2.cell? ⟨zb,0,none⟩=some (.pointer (some ⟨m.hp,0,none⟩)):=zj hb2 x0 (ze x0)
    obtain⟨va,hva⟩:=za HAT w2 hb2
    have HVA:=zc hva
    clear hb2 hva
    go_wp2_with fail
    refine(za HVA).mono ?_
    rintro e w3 ⟨rfl,rfl⟩
    go_wp2_with fail
    refine(za HID w3 (za HB2)).mono ?_
    rintro e w4 ⟨g4,c4,rfl,ho4,hb4⟩
    have HB4:=zc ((za HB2).trans (hb4.mono (za HB2).size))
    have HO4:=zc ho4
    have HI4:=zc (aa8 (za HOW) (za HB4))
    clear ho4 hb4 x2
    go_wp2_with fail
    refine wp_loop_ghost_k (fun gg a' wx=>∃(q:Nat),a'.defers=[]∧a'.tmps.size=408∧a'.tmps.toList[0]?=some (.pointer (some ⟨zb,0,none⟩))∧a'.tmps.toList[3]?=some (.int .i64 L)∧a'.tmps.toList[4]?=some (.slice gi n0 ci)∧a'.tmps.toList[16]?=some (.int .i64 a7)∧a'.tmps.toList[17]?=some (.int .i64 a8)∧a'.tmps.toList[18]?=some (.int .i64 a9)∧a'.tmps.toList[19]?=some (.int .i64 a10)∧a'.tmps.toList[21]?=some (.bool false)∧a'.tmps.toList[22]?=some (.slice g4 n0 c4)∧a'.tmps.toList[23]?=some (.int .i64 (q:Int))∧q≤n0∧gg=n0-q∧Hid (Below w4.heap.size w4 wx)) n0 ?atStart3 ?round3
    case atStart3=>exact⟨0,rfl,rfl,rfl,rfl,rfl,rfl,rfl,rfl,rfl,rfl,rfl,rfl,Nat.zero_le _,rfl,Below.refl _ _⟩
    case round3 =>
     rintro gk2 a wr ⟨q,hd,hs,h0,h3,h4,h16,h17,h18,h19,h21,h22,h23,hq1,hg2,HQ⟩ J2 K2 aJ2 aK2
     obtain⟨f,ha⟩:=aet hd hs h0 h3 h4 h16 h17 h18 h19 h21 h22 h23
     clear hd hs h0 h3 h4 h16 h17 h18 h19 h21 h22 h23
     subst ha
     subst hg2
     by_cases hlq:q<n0
     ·have hlq2:(q:Int)<(n0:Int):=by omega
      obtain⟨c,hc⟩:∃c,(ab3 s.T s.here)[q]?=some c:=⟨_,List.getElem?_eq_getElem (by rw[←za HNL];exact hlq)⟩
      obtain⟨g5,e5,_,y1,_⟩:=aa2 (aa8 (za HO4) (za HQ)) (i:=q) (x:=.int .i64 c) (by rw[List.getElem?_map,hc];rfl) rfl
      subst e5
      obtain⟨g6,e6,_,y2,_⟩:=aa2 (aa8 (za HI4) (za HQ)) (i:=q) (x:=.int .i64 c) (by rw[List.getElem?_map,hc];rfl) rfl
      subst e6
      clear hc
      go_wp2_with fail
      refine wp_cut (fun a' wx=>a'.defers=[]∧a'.tmps.size=408∧a'.tmps.toList[0]?=some (.pointer (some ⟨zb,0,none⟩))∧a'.tmps.toList[3]?=some (.int .i64 L)∧a'.tmps.toList[4]?=some (.slice (some ⟨g6,0,none⟩) n0 ci)∧a'.tmps.toList[16]?=some (.int .i64 a7)∧a'.tmps.toList[17]?=some (.int .i64 a8)∧a'.tmps.toList[18]?=some (.int .i64 a9)∧a'.tmps.toList[19]?=some (.int .i64 a10)∧a'.tmps.toList[21]?=some (.bool false)∧a'.tmps.toList[22]?=some (.slice (some ⟨g5,0,none⟩) n0 c4)∧a'.tmps.toList[23]?=some (.int .i64 (q:Int))∧a'.tmps.toList[364]?=some (.bool false)∧wx=wr.drew) ?rest3 ?first3
      case first3 =>
       intro J K' aJ aK'
       refine wp_region_held_drew (S:=fun w'=>w'.cell? ⟨g5,q,none⟩=some (.int .i64 c)∧w'.cell? ⟨g6,q,none⟩=some (.int .i64 c)∧w'=wr.drew) (by kernel_rfl) ⟨y1,y2,rfl⟩ (fun hHeld=>?_)
       refine tka 0 356 rfl ?_
       refine tka 1 357 rfl ?_
       refine tka 2 358 rfl ?_
       refine tka 3 359 rfl ?_
       refine tka 4 360 rfl ?_
       refine tka 5 361 rfl ?_
       refine tka 6 362 rfl ?_
       refine tka 7 363 rfl ?_
       refine tka 8 364 rfl ?_
       simp only[sA,sB,sC]
       refine wpAnyH_done (by kernel_rfl) ?_ _
       go_wp2_with fail
       exact Met.intro (aJ _ _ ⟨rfl,rfl,rfl,rfl,rfl,rfl,rfl,rfl,rfl,rfl,rfl,rfl,rfl,rfl⟩)
      rintro a w5 ⟨hd,hs,h0,h3,h4,h16,h17,h18,h19,h21,h22,h23,h364,hw5⟩
      obtain⟨f,ha⟩:=ad3 hd hs h0 h3 h4 h16 h17 h18 h19 h21 h22 h23 h364
      clear hd hs h0 h3 h4 h16 h17 h18 h19 h21 h22 h23 h364
      subst ha
      subst hw5
      go_wp2_with fail
      refine Handed.intro (n0-(q+1)) (by omega) (aJ2 _ _ _ ⟨(q+1),rfl,rfl,rfl,rfl,rfl,rfl,rfl,rfl,rfl,rfl,rfl,rfl,?_⟩)
      exact⟨by omega,rfl,(za HQ).drew⟩
     ·obtain rfl:q=n0:=by omega
      have hlq2:decide ((q:Int)<(q:Int))=false:=by simp
      have HB6:=zc ((za HB4).trans ((za HQ).mono (za HB4).size))
      have x6:wr.cell? ⟨zb,0,none⟩=some (.pointer (some ⟨m.hp,0,none⟩)):=zj (za HB6) x0 (ze x0)
      have d7:wr.cell? ⟨zb,7,none⟩=some (.int .i64 a7):=zj (za HB6) c7 (ze c7)
      have d8:wr.cell? ⟨zb,8,none⟩=some (.int .i64 a8):=zj (za HB6) c8 (ze c8)
      have d9:wr.cell? ⟨zb,9,none⟩=some (.int .i64 a9):=zj (za HB6) c9 (ze c9)
      have d10:wr.cell? ⟨zb,10,none⟩=some (.int .i64 a10):=zj (za HB6) c10 (ze c10)
      clear hlq
      go_wp2_with fail
      refine(za HLA _ (za HB6)).mono ?_
      rintro e w7 ⟨rfl,rfl⟩
      go_wp2_with fail
      go_ret
      exact⟨rfl,(za HJ).bl.trans ((za HB6).mono (za HJ).bl.size)⟩
end
section
open Go.RowKit Go.Maps
set_option maxRecDepth 100000
theorem fr0_3_4_5_6_7 {a:Act} (hd:a.defers=[]) (hs:a.tmps.size=408) {v0 v3 v4 v5 v6 v7:Value} (h0:a.tmps.toList[0]?=some v0) (h3:a.tmps.toList[3]?=some v3) (h4:a.tmps.toList[4]?=some v4) (h5:a.tmps.toList[5]?=some v5) (h6:a.tmps.toList[6]?=some v6) (h7:a.tmps.toList[7]?=some v7):∃f:Nat→Value,a=⟨((v0 :: f 1 :: f 2 :: v3 :: v4 :: v5 :: v6 :: v7 :: f 8 :: f 9 :: f 10 :: f 11 :: f 12 :: f 13 :: f 14 :: f 15 :: f 16 :: f 17 :: f 18 :: f 19 :: f 20 :: f 21 :: f 22 :: f 23 :: f 24 :: f 25 :: f 26 :: f 27 :: f 28 :: f 29 :: f 30 :: f 31 :: f 32 :: f 33 :: f 34 :: f 35 :: f 36 :: f 37 :: f 38 :: f 39 :: f 40 :: f 41 :: f 42 :: f 43 :: f 44 :: f 45 :: f 46 :: f 47 :: f 48 :: f 49 :: f 50 :: f 51 :: f 52 :: f 53 :: f 54 :: f 55 :: f 56 :: f 57 :: f 58 :: f 59 :: f 60 :: f 61 :: f 62 :: f 63 :: f 64 :: f 65 :: f 66 :: f 67 :: f 68 :: f 69 :: f 70 :: f 71 :: f 72 :: f 73 :: f 74 :: f 75 :: f 76 :: f 77 :: f 78 :: f 79 :: f 80 :: f 81 :: f 82 :: f 83 :: f 84 :: f 85 :: f 86 :: f 87 :: f 88 :: f 89 :: f 90 :: f 91 :: f 92 :: f 93 :: f 94 :: f 95 :: f 96 :: f 97 :: f 98 :: f 99 :: f 100 :: f 101 :: f 102 :: f 103 :: f 104 :: f 105 :: f 106 :: f 107 :: f 108 :: f 109 :: f 110 :: f 111 :: f 112 :: f 113 :: f 114 :: f 115 :: f 116 :: f 117 :: f 118 :: f 119 :: f 120 :: f 121 :: f 122 :: f 123 :: f 124 :: f 125 :: f 126 :: f 127 :: f 128 :: f 129 :: f 130 :: f 131 :: f 132 :: f 133 :: f 134 :: f 135 :: f 136 :: f 137 :: f 138 :: f 139 :: f 140 :: f 141 :: f 142 :: f 143 :: f 144 :: f 145 :: f 146 :: f 147 :: f 148 :: f 149 :: f 150 :: f 151 :: f 152 :: f 153 :: f 154 :: f 155 :: f 156 :: f 157 :: f 158 :: f 159 :: f 160 :: f 161 :: f 162 :: f 163 :: f 164 :: f 165 :: f 166 :: f 167 :: f 168 :: f 169 :: f 170 :: f 171 :: f 172 :: f 173 :: f 174 :: f 175 :: f 176 :: f 177 :: f 178 :: f 179 :: f 180 :: f 181 :: f 182 :: f 183 :: f 184 :: f 185 :: f 186 :: f 187 :: f 188 :: f 189 :: f 190 :: f 191 :: f 192 :: f 193 :: f 194 :: f 195 :: f 196 :: f 197 :: f 198 :: f 199 :: f 200 :: f 201 :: f 202 :: f 203 :: f 204 :: f 205 :: f 206 :: f 207 :: f 208 :: f 209 :: f 210 :: f 211 :: f 212 :: f 213 :: f 214 :: f 215 :: f 216 :: f 217 :: f 218 :: f 219 :: f 220 :: f 221 :: f 222 :: f 223 :: f 224 :: f 225 :: f 226 :: f 227 :: f 228 :: f 229 :: f 230 :: f 231 :: f 232 :: f 233 :: f 234 :: f 235 :: f 236 :: f 237 :: f 238 :: f 239 :: f 240 :: f 241 :: f 242 :: f 243 :: f 244 :: f 245 :: f 246 :: f 247 :: f 248 :: f 249 :: f 250 :: f 251 :: f 252 :: f 253 :: f 254 :: f 255 :: f 256 :: f 257 :: f 258 :: f 259 :: f 260 :: f 261 :: f 262 :: f 263 :: f 264 :: f 265 :: f 266 :: f 267 :: f 268 :: f 269 :: f 270 :: f 271 :: f 272 :: f 273 :: f 274 :: f 275 :: f 276 :: f 277 :: f 278 :: f 279 :: f 280 :: f 281 :: f 282 :: f 283 :: f 284 :: f 285 :: f 286 :: f 287 :: f 288 :: f 289 :: f 290 :: f 291 :: f 292 :: f 293 :: f 294 :: f 295 :: f 296 :: f 297 :: f 298 :: f 299 :: f 300 :: f 301 :: f 302 :: f 303 :: f 304 :: f 305 :: f 306 :: f 307 :: f 308 :: f 309 :: f 310 :: f 311 :: f 312 :: f 313 :: f 314 :: f 315 :: f 316 :: f 317 :: f 318 :: f 319 :: f 320 :: f 321 :: f 322 :: f 323 :: f 324 :: f 325 :: f 326 :: f 327 :: f 328 :: f 329 :: f 330 :: f 331 :: f 332 :: f 333 :: f 334 :: f 335 :: f 336 :: f 337 :: f 338 :: f 339 :: f 340 :: f 341 :: f 342 :: f 343 :: f 344 :: f 345 :: f 346 :: f 347 :: f 348 :: f 349 :: f 350 :: f 351 :: f 352 :: f 353 :: f 354 :: f 355 :: f 356 :: f 357 :: f 358 :: f 359 :: f 360 :: f 361 :: f 362 :: f 363 :: f 364 :: f 365 :: f 366 :: f 367 :: f 368 :: f 369 :: f 370 :: f 371 :: f 372 :: f 373 :: f 374 :: f 375 :: f 376 :: f 377 :: f 378 :: f 379 :: f 380 :: f 381 :: f 382 :: f 383 :: f 384 :: f 385 :: f 386 :: f 387 :: f 388 :: f 389 :: f 390 :: f 391 :: f 392 :: f 393 :: f 394 :: f 395 :: f 396 :: f 397 :: f 398 :: f 399 :: f 400 :: f 401 :: f 402 :: f 403 :: f 404 :: f 405 :: f 406 :: f 407 :: []):List Value).toArray,[]⟩:=by
 obtain⟨f,hf⟩:=aee hs
 obtain⟨tm,df⟩:=a
 dsimp only at hd hs hf h0 h3 h4 h5 h6 h7
 subst hd hf
 have e0:f 0=v0:=Option.some.inj h0
 subst e0
 have e3:f 3=v3:=Option.some.inj h3
 subst e3
 have e4:f 4=v4:=Option.some.inj h4
 subst e4
 have e5:f 5=v5:=Option.some.inj h5
 subst e5
 have e6:f 6=v6:=Option.some.inj h6
 subst e6
 have e7:f 7=v7:=Option.some.inj h7
 subst e7
 exact⟨f,rfl⟩
def tellB (B k:Nat) (w:World) (zb:Nat) (m:ZM) (s:ZS):{ G:(Act→World→Prop)→Nat→(Act→World→Prop)→Nat→Int→(Act→World→Prop)→Option Addr→Nat→Nat→World→(Act→World→Prop)→Prop // ZAt B k w zb m s→ErrT w→(∀(K0:Act→World→Prop) (j:Nat) (K:Act→World→Prop) (tb:Nat) (L2:Int) (K1:Act→World→Prop) (gi:Option Addr) (n0 ci:Nat) (w7:World) (K4:Act→World→Prop) (t:Th) (vi:Value) (hr:Bool),s.T[j]?=some t→m.bs[j]?=some tb→m.vis[j]?=some vi→s.here[j]?=some hr→s.known[j]?=some true→L2=(idC (s.T.take (j+1)):Int)→(0≤t.id∧t.id≤61)→Tj w w7 s.T s.here (j+1) (.slice gi n0 ci)→(∀(a':Act) (wx:World),a'.defers=[]∧a'.tmps.size=408∧a'.tmps.toList[0]?=some (.pointer (some ⟨zb,0,none⟩))∧a'.tmps.toList[3]?=some (.int .i64 L2)∧a'.tmps.toList[4]?=some (.slice gi n0 ci)∧a'.tmps.toList[5]?=some (.int .i64 (j:Int))∧a'.tmps.toList[6]?=some (.pointer (some ⟨tb,0,none⟩))∧a'.tmps.toList[7]?=some (.int .i64 (s.ad j))∧Tj w wx s.T s.here (j+1) (.slice gi n0 ci)→K4 a' wx)→G K0 j K tb L2 K1 gi n0 ci w7 K4)→∀(K0:Act→World→Prop) (j:Nat) (K:Act→World→Prop) (gi:Option Addr) (n0 ci tb:Nat) (L2:Int) (K1:Act→World→Prop) (w3:World) (av:Int) (ok:Bool) (t:Th) (vi:Value) (hr kn:Bool),s.T[j]?=some t→m.bs[j]?=some tb→m.vis[j]?=some vi→s.here[j]?=some hr→s.known[j]?=some kn→L2=(idC (s.T.take (j+1)):Int)→(0≤t.id∧t.id≤61)→Tj w w3 s.T s.here j (.slice gi n0 ci)→av=atV s.D t.id→ok=Maps.has s.D (.int .i64 t.id)→(∀(a':Act) (wx:World) (vids:Value),a'.defers=[]∧a'.tmps.size=408∧a'.tmps.toList[0]?=some (.pointer (some ⟨zb,0,none⟩))∧a'.tmps.toList[3]?=some (.int .i64 L2)∧a'.tmps.toList[4]?=some vids∧a'.tmps.toList[5]?=some (.int .i64 (j:Int))∧Tj w wx s.T s.here (j+1) vids→K1 a' wx)→(tellA B k w zb m s).1 K0 j K gi n0 ci tb L2 K1 w3 av ok }:=by
 apply Subtype.mk
 case property =>
  intro h hT hround K0 j K gi n0 ci tb L2 K1 w3 av ok t vi hr kn htt hb1 hb2 hhr hkn hl2 hid2 hJ hav hok hk1
  have HR3:=zc hround
  have HT:=zc hT
  have HJ3:=zc hJ
  have HAV:=zc hav
  have HOK:=zc hok
  obtain⟨ii,hii,hii0,hii1,hii2⟩:=info_parts aei
  clear hround hJ hav hok hT
  obtain⟨gt,ct,hvt⟩:=aaa h.zr.th
  obtain⟨gk,ck,hvk⟩:=aaa h.zr.kr
  obtain⟨gw,cw,hvw⟩:=aaa h.zr.wr
  obtain⟨gh,ch,hvh⟩:=aaa h.zr.hr
  have hTl:s.T.length≤60:=by have:=h.fw.t;have:=h.fw.k60;omega
  have hWl:s.wh.length=s.T.length:=h.zi.lw
  have hKl:s.known.length=s.T.length:=h.zi.lk
  have hHl:s.here.length=s.T.length:=h.zi.rep.len
  have hlt:j<s.T.length:=(List.getElem?_eq_some_iff.1 htt).1
  have hlt2:(j:Int)<(s.T.length:Int):=by omega
  have HZA:=zc h
  have HVT:=zc hvt
  have HVK:=zc hvk
  have HVW:=zc hvw
  have HVH:=zc hvh
  have HTT:=zc htt
  have HB1:=zc hb1
  have HB2:=zc hb2
  have HHR:=zc hhr
  have HKN:=zc hkn
  have HL2:=zc hl2
  have HK1:=zc hk1
  have hq:=aco
  clear h hvt hvk hvw hvh htt hb1 hb2 hhr hkn hl2 hk1
  delta tellA
  intro f
  have hZ:=(za HZA).zr.keep (za HJ3).bl
  obtain⟨hb3,hb4⟩:=hZ.ob j t tb vi (za HTT) (za HB1) (za HB2)
  obtain⟨gh0,e2,_,r3,_⟩:=aa2 hZ.hr (i:=j) (x:=.bool hr) (by rw[List.getElem?_map,za HHR];rfl) (za HVH)
  have z3:w3.cell? ⟨zb,3,none⟩=some (.slice (some ⟨gh0,0,none⟩) s.here.length ch):=by rw[←e2,←za HVH];exact zd hZ.blk 3
  have t2:w3.cell? ⟨tb,2,none⟩=some (.int .i64 t.id):=zd hb3 2
  have hlt3:(j:Int)<(s.here.length:Int):=by rw[hHl];omega
  have hlt4:(j:Int)<(s.known.length:Int):=by rw[hKl];omega
  have hlt5:(j:Int)<(s.wh.length:Int):=by rw[hWl];omega
  obtain⟨ap,hap⟩:∃ap,ap=(decide (0<t.id)&&hr):=⟨_,rfl⟩
  have HAP:=zc hap
  clear hap hb3 hb4 hZ e2
  go_upto_region 9 with fail
  refine wp_cut (fun a' wx=>a'.defers=[]∧a'.tmps.size=408∧a'.tmps.toList[0]?=some (.pointer (some ⟨zb,0,none⟩))∧a'.tmps.toList[3]?=some (.int .i64 L2)∧a'.tmps.toList[4]?=some (.slice gi n0 ci)∧a'.tmps.toList[5]?=some (.int .i64 (j:Int))∧a'.tmps.toList[6]?=some (.pointer (some ⟨tb,0,none⟩))∧a'.tmps.toList[7]?=some (.int .i64 av)∧a'.tmps.toList[8]?=some (.bool ok)∧a'.tmps.toList[71]?=some (.bool ap)∧wx=w3) ?rest1 ?first1
  case first1 =>
   intro J K' aJ aK'
   by_cases hp:0<t.id
   ·go_wp2_with fail
    exact Met.intro (aJ _ _ ⟨rfl,rfl,rfl,rfl,rfl,rfl,rfl,rfl,rfl,by rw[za HAP,decide_eq_true hp];rfl,rfl⟩)
   ·have hp2:decide (0<t.id)=false:=by simpa using hp
    clear hp
    go_wp2_with fail
    exact Met.intro (aJ _ _ ⟨rfl,rfl,rfl,rfl,rfl,rfl,rfl,rfl,rfl,by rw[za HAP,hp2];rfl,rfl⟩)
  rintro a w4 ⟨hd,hs,h0,h3,h4,h5,h6,h7,h8,h71,hw4⟩
  obtain⟨f,ha⟩:=ahs hd hs h0 h3 h4 h5 h6 h7 h8 h71
  clear hd hs h0 h3 h4 h5 h6 h7 h8 h71
  subst ha
  subst hw4
  go_upto_if 71 with fail
  refine wp_cut (fun a' wx=>∃(vj:Value),a'.defers=[]∧a'.tmps.size=408∧a'.tmps.toList[0]?=some (.pointer (some ⟨zb,0,none⟩))∧a'.tmps.toList[3]?=some (.int .i64 L2)∧a'.tmps.toList[4]?=some vj∧a'.tmps.toList[5]?=some (.int .i64 (j:Int))∧a'.tmps.toList[6]?=some (.pointer (some ⟨tb,0,none⟩))∧a'.tmps.toList[7]?=some (.int .i64 av)∧a'.tmps.toList[8]?=some (.bool ok)∧Hid (Tj w wx s.T s.here (j+1) vj)) ?rest2 ?first2
  case first2 =>
   intro J K' aJ aK'
   cases ap with
   | false =>
    go_wp2_with fail
    exact Met.intro (aJ _ _ ⟨_,rfl,rfl,rfl,rfl,rfl,rfl,rfl,rfl,rfl,(za HJ3).skip (za HTT) (za HHR) (za HAP).symm⟩)
   | true =>
    have HO:=zc ((za HJ3).keep ((Below.refl _ _).alloc (Nat.le_refl _) (.cells #[.int .i64 t.id] 3)))
    have HSZ:=zc (za HJ3).bl.size
    go_wp2_with (at_builtin;refine wpList_append_lies _ rfl _ _ _ rfl w.heap.size 3 ii (.int .i64 0) 1 8 underlying49 hii hii0 hii1 hii2 rfl (by decide) (.slice gi n0 ci) (ab3 (s.T.take j) (s.here.take j)).length ((ab3 (s.T.take j) (s.here.take j)).map iv) rfl (za HO).ow ⟨w4.heap.size,0,none⟩ 1 1 [.int .i64 t.id] rfl rfl (World.news_of_block (aan _ _)) (fun u hu=>by simp at hu;subst hu;rfl) (by decide) ?e3 ?e4 ?e5 _ rfl ?_)
    case e3=>unfold maxLen;have:=ag6 s.T s.here j;omega
    case e4=>have:=ag6 s.T s.here j;omega
    case e5=>have:=za HSZ;simp;omega
    intro g2 c2 w2 hown2 hg2 _ _
    have HJ4:=zc ((za HO).more (za HTT) (za HHR) (za HAP).symm hown2 (by simp) hg2)
    clear hown2 hg2
    go_wp2_with fail
    exact Met.intro (aJ _ _ ⟨_,rfl,rfl,rfl,rfl,rfl,rfl,rfl,rfl,rfl,za HJ4⟩)
  rintro a w5 ⟨vj,hd,hs,h0,h3,h4,h5,h6,h7,h8,HJ5⟩
  obtain⟨f,ha⟩:=af7 hd hs h0 h3 h4 h5 h6 h7 h8
  clear hd hs h0 h3 h4 h5 h6 h7 h8
  subst ha
  clear HJ3 t2 z3 r3 HAP
  obtain⟨gi2,ni2,ci2,e5,hn5,hn6⟩:=(za HJ5).form
  subst e5
  have hZ:=(za HZA).zr.keep (za HJ5).bl
  obtain⟨hb3,hb4⟩:=hZ.ob j t tb vi (za HTT) (za HB1) (za HB2)
  obtain⟨gh1,e2,_,r3,_⟩:=aa2 hZ.hr (i:=j) (x:=.bool hr) (by rw[List.getElem?_map,za HHR];rfl) (za HVH)
  obtain⟨gk0,e3,_,r4,_⟩:=aa2 hZ.kr (i:=j) (x:=.bool kn) (by rw[List.getElem?_map,za HKN];rfl) (za HVK)
  have z2:w5.cell? ⟨zb,2,none⟩=some (.slice gw s.wh.length cw):=by rw[←za HVW];exact zd hZ.blk 2
  have z3:w5.cell? ⟨zb,3,none⟩=some (.slice (some ⟨gh1,0,none⟩) s.here.length ch):=by rw[←e2,←za HVH];exact zd hZ.blk 3
  have z4:w5.cell? ⟨zb,4,none⟩=some (.slice (some ⟨gk0,0,none⟩) s.known.length ck):=by rw[←e3,←za HVK];exact zd hZ.blk 4
  have t2:w5.cell? ⟨tb,2,none⟩=some (.int .i64 t.id):=zd hb3 2
  have HWC:Hid (kn=true→∃gw0,gw=some ⟨gw0,0,none⟩∧w5.cell? ⟨gw0,j*3+1,none⟩=some (.int .i64 (s.ad j))):=fun e=>by
   subst e
   obtain⟨x,_,_,hw⟩:=(za HZA).zi.obj (za HTT) (za HKN)
   obtain⟨gw0,e,_,_,q1,_⟩:=hZ.whCell hw (za HVW)
   exact⟨gw0,e,q1⟩
  have HZ5:=zc hZ
  clear hn5 hb3 hb4 hZ e2 e3
  go_upto_region 11 with fail
  refine wp_cut (fun a' wx=>a'.defers=[]∧a'.tmps.size=408∧a'.tmps.toList[0]?=some (.pointer (some ⟨zb,0,none⟩))∧a'.tmps.toList[3]?=some (.int .i64 L2)∧a'.tmps.toList[4]?=some (.slice gi2 ni2 ci2)∧a'.tmps.toList[5]?=some (.int .i64 (j:Int))∧a'.tmps.toList[6]?=some (.pointer (some ⟨tb,0,none⟩))∧a'.tmps.toList[118]?=some (.bool false)∧wx=w5) ?rest3 ?first3
  case first3 =>
   intro J K' aJ aK'
   by_cases hp:0<t.id
   ·obtain⟨q1,q2⟩:=(za HZA).zi.told (za HTT) (za HHR) hp
    rw[←za HOK] at q1
    have q1:=q1.symm
    subst q1
    cases hr with
    | false =>
     clear q2
     go_wp2_with fail
     exact Met.intro (aJ _ _ ⟨rfl,rfl,rfl,rfl,rfl,rfl,rfl,rfl,rfl⟩)
    | true =>
     cases kn with
     | false =>
      clear q2
      go_wp2_with fail
      exact Met.intro (aJ _ _ ⟨rfl,rfl,rfl,rfl,rfl,rfl,rfl,rfl,rfl⟩)
     | true =>
      have q3:=q2 rfl
      rw[←za HAV] at q3
      subst q3
      clear q2
      obtain⟨gw0,e,q4⟩:=za HWC rfl
      subst e
      go_wp2_with fail
      exact Met.intro (aJ _ _ ⟨rfl,rfl,rfl,rfl,rfl,rfl,rfl,rfl,rfl⟩)
   ·have hp2:decide (0<t.id)=false:=by simpa using hp
    clear hp
    go_wp2_with fail
    exact Met.intro (aJ _ _ ⟨rfl,rfl,rfl,rfl,rfl,rfl,rfl,rfl,rfl⟩)
  rintro a w6 ⟨hd,hs,h0,h3,h4,h5,h6,h118,hw6⟩
  obtain⟨f,ha⟩:=ajf hd hs h0 h3 h4 h5 h6 h118
  clear hd hs h0 h3 h4 h5 h6 h118
  subst ha
  subst hw6
  clear z3 r3
  cases kn with
  | false =>
   go_wp2_with fail
   exact za HK1 _ _ _ ⟨rfl,rfl,rfl,rfl,rfl,rfl,za HJ5⟩
  | true =>
   obtain⟨gw0,e,q4⟩:=za HWC rfl
   subst e
   clear HWC
   obtain⟨x,hx,hi,_⟩:=(za HZA).zi.obj (za HTT) (za HKN)
   obtain⟨hb3,hb4⟩:=(za HZ5).ob j t tb vi (za HTT) (za HB1) (za HB2)
   obtain⟨gs,cs,hvs⟩:=aaa hb4
   have HVS:=zc hvs
   have x0:w6.cell? ⟨zb,0,none⟩=some (.pointer (some ⟨m.hp,0,none⟩)):=zd (za HZ5).blk 0
   have t0:w6.cell? ⟨tb,0,none⟩=some (.int .i64 t.kind):=zd hb3 0
   have t1:w6.cell? ⟨tb,1,none⟩=some (.int .i64 t.tag):=zd hb3 1
   have t4:w6.cell? ⟨tb,4,none⟩=some (.slice gs t.is.length cs):=by rw[←hvs];exact zd hb3 4
   have HX:Hid (aao s.P (s.ad j)=some x∧IsTh s.here s.ad t x):=⟨hx,hi⟩
   have HG:=zc ((za HZA).hg.keep (za HJ5).bl)
   have hsz:t.is.length≤1000:=(za HZA).zi.sz t (List.mem_of_getElem? (za HTT))
   clear hx hi hb3 hb4 hvs
   go_wp2_with fail
   refine wp_cut (fun a' wx=>a'.defers=[]∧a'.tmps.size=408∧a'.tmps.toList[0]?=some (.pointer (some ⟨zb,0,none⟩))∧a'.tmps.toList[3]?=some (.int .i64 L2)∧a'.tmps.toList[4]?=some (.slice gi2 ni2 ci2)∧a'.tmps.toList[5]?=some (.int .i64 (j:Int))∧a'.tmps.toList[6]?=some (.pointer (some ⟨tb,0,none⟩))∧a'.tmps.toList[7]?=some (.int .i64 (s.ad j))∧a'.tmps.toList[185]?=some (.bool false)∧Hid (Below w6.heap.size w6 wx)) ?rest4 ?first4
   case first4 =>
    intro J K' aJ aK'
    have ent150:∀w:World,Sem.run prog (callFunc 21 #[.pointer (some ⟨m.hp,0,none⟩),.int .i64 (s.ad j)]) w=.ok (.enter 21 #[.pointer (some ⟨m.hp,0,none⟩),.int .i64 (s.ad j)]) w:=fun _=>by kernel_rfl
    have ent151:∀w:World,Sem.run prog (callFunc 22 #[.pointer (some ⟨m.hp,0,none⟩),.int .i64 (s.ad j)]) w=.ok (.enter 22 #[.pointer (some ⟨m.hp,0,none⟩),.int .i64 (s.ad j)]) w:=fun _=>by kernel_rfl
    have ent152:∀w:World,Sem.run prog (callFunc 23 #[.pointer (some ⟨m.hp,0,none⟩),.int .i64 (s.ad j)]) w=.ok (.enter 23 #[.pointer (some ⟨m.hp,0,none⟩),.int .i64 (s.ad j)]) w:=fun _=>by kernel_rfl
    have ent153:∀w:World,Sem.run prog (callFunc 24 #[.pointer (some ⟨m.hp,0,none⟩),.int .i64 (s.ad j)]) w=.ok (.enter 24 #[.pointer (some ⟨m.hp,0,none⟩),.int .i64 (s.ad j)]) w:=fun _=>by kernel_rfl
    refine wp_region_held_drew (S:=fun w'=>Below w6.heap.size w6 w') (by kernel_rfl) (Below.refl _ _).drew (fun hHeld=>?_)
    refine tka 0 135 rfl ?_
    refine tka 1 136 rfl ?_
    refine tka 2 137 rfl ?_
    refine tka 3 138 rfl ?_ (hy:=by (intro w h;(try dsimp only at h);have q0:=zj h x0 (ze x0);have q1:=zj h t0 (ze t0);have q2:=zj h t1 (ze t1);have q3:=zj h t2 (ze t2);have q4:=zj h t4 (ze t4);clear h;go_simp;(try with_reducible rfl)))
    refine tka 4 139 rfl ?_
    refine tka 6 141 rfl ?_
    refine tka 7 142 rfl ?_
    refine tka 8 143 rfl ?_
    refine tka 9 144 rfl ?_ (hy:=by (intro w h;(try dsimp only at h);have q0:=zj h x0 (ze x0);have q1:=zj h t0 (ze t0);have q2:=zj h t1 (ze t1);have q3:=zj h t2 (ze t2);have q4:=zj h t4 (ze t4);clear h;go_simp;(try with_reducible rfl)))
    simp only[sA,sB,sC]
    refine wpAnyH_ready (rs:=[5]) (by kernel_rfl) (by simp) ?_
    refine AllReadyH.cons (o:={ dst:=some 140,op:=_,type:=_,pos:=_,after:=_,guard:=_ }) rfl (fun K hK=>?_) AllReadyH.nil
    refine aaq (by kernel_rfl) (by simp[Act.eval,ent150,go_sem]) ((alm ((za HG).keep hHeld) (za HX)).mono ?_)
    rintro e w2 ⟨rfl,hb2⟩
    refine hK.out _ _ (Below.trans hHeld (hb2.mono (Below.size hHeld))) (fun hHeld5=>?_)
    clear hK K
    simp only[Act.put,sA,sB,sC]
    refine tka 10 145 rfl ?_
    refine tka 11 146 rfl ?_
    simp only[sA,sB,sC]
    refine tka 12 147 rfl ?_
    simp only[sA,sB,sC]
    refine tka 13 148 rfl ?_
    simp only[sA,sB,sC]
    refine tka 14 149 rfl ?_
    simp only[sA,sB,sC]
    refine tka 15 150 rfl ?_ (hy:=by (intro w h;(try dsimp only at h);have q0:=zj h x0 (ze x0);have q1:=zj h t0 (ze t0);have q2:=zj h t1 (ze t1);have q3:=zj h t2 (ze t2);have q4:=zj h t4 (ze t4);clear h;go_simp;(try with_reducible rfl)))
    simp only[sA,sB,sC]
    refine tka 16 151 rfl ?_
    simp only[sA,sB,sC]
    refine tka 18 153 rfl ?_
    simp only[sA,sB,sC]
    refine tka 19 154 rfl ?_
    simp only[sA,sB,sC]
    refine tka 20 155 rfl ?_
    simp only[sA,sB,sC]
    refine tka 21 156 rfl ?_ (hy:=by (intro w h;(try dsimp only at h);have q0:=zj h x0 (ze x0);have q1:=zj h t0 (ze t0);have q2:=zj h t1 (ze t1);have q3:=zj h t2 (ze t2);have q4:=zj h t4 (ze t4);clear h;go_simp;(try with_reducible rfl)))
    simp only[sA,sB,sC]
    refine wpAnyH_ready (rs:=[17]) (by kernel_rfl) (by simp) ?_
    refine AllReadyH.cons (o:={ dst:=some 152,op:=_,type:=_,pos:=_,after:=_,guard:=_ }) rfl (fun K hK=>?_) AllReadyH.nil
    refine aaq (by rfl) (by simp[Act.eval,ent151,go_sem]) ((tagTh ((za HG).keep hHeld5) (za HX)).mono ?_)
    rintro e w2 ⟨rfl,hb2⟩
    refine hK.out _ _ (Below.trans hHeld5 (hb2.mono (Below.size hHeld5))) (fun hHeld17=>?_)
    clear hK K
    simp only[Act.put,sA,sB,sC]
    refine tka 22 157 rfl ?_
    refine tka 23 158 rfl ?_
    refine tka 24 159 rfl ?_
    simp only[sA,sB,sC]
    refine tka 25 160 rfl ?_
    simp only[sA,sB,sC]
    refine tka 26 161 rfl ?_
    simp only[sA,sB,sC]
    refine tka 27 162 rfl ?_
    simp only[sA,sB,sC]
    refine tka 28 163 rfl ?_ (hy:=by (intro w h;(try dsimp only at h);have q0:=zj h x0 (ze x0);have q1:=zj h t0 (ze t0);have q2:=zj h t1 (ze t1);have q3:=zj h t2 (ze t2);have q4:=zj h t4 (ze t4);clear h;go_simp;(try with_reducible rfl)))
    simp only[sA,sB,sC]
    refine tka 29 164 rfl ?_
    simp only[sA,sB,sC]
    refine tka 31 166 rfl ?_
    simp only[sA,sB,sC]
    refine tka 32 167 rfl ?_
    simp only[sA,sB,sC]
    refine tka 33 168 rfl ?_
    simp only[sA,sB,sC]
    refine tka 34 169 rfl ?_ (hy:=by (intro w h;(try dsimp only at h);have q0:=zj h x0 (ze x0);have q1:=zj h t0 (ze t0);have q2:=zj h t1 (ze t1);have q3:=zj h t2 (ze t2);have q4:=zj h t4 (ze t4);clear h;go_simp;(try with_reducible rfl)))
    simp only[sA,sB,sC]
    refine wpAnyH_ready (rs:=[30]) (by kernel_rfl) (by simp) ?_
    refine AllReadyH.cons (o:={ dst:=some 165,op:=_,type:=_,pos:=_,after:=_,guard:=_ }) rfl (fun K hK=>?_) AllReadyH.nil
    refine aaq (by rfl) (by simp[Act.eval,ent152,go_sem]) ((idTh ((za HG).keep hHeld17) (za HX)).mono ?_)
    rintro e w2 ⟨rfl,hb2⟩
    refine hK.out _ _ (Below.trans hHeld17 (hb2.mono (Below.size hHeld17))) (fun hHeld30=>?_)
    clear hK K
    simp only[Act.put,sA,sB,sC]
    refine tka 35 170 rfl ?_
    refine tka 36 171 rfl ?_
    refine tka 37 172 rfl ?_
    simp only[sA,sB,sC]
    refine tka 38 173 rfl ?_
    simp only[sA,sB,sC]
    refine tka 39 174 rfl ?_
    simp only[sA,sB,sC]
    refine tka 40 175 rfl ?_
    simp only[sA,sB,sC]
    refine tka 41 176 rfl ?_ (hy:=by (intro w h;(try dsimp only at h);have q0:=zj h x0 (ze x0);have q1:=zj h t0 (ze t0);have q2:=zj h t1 (ze t1);have q3:=zj h t2 (ze t2);have q4:=zj h t4 (ze t4);clear h;go_simp;(try with_reducible rfl)))
    simp only[sA,sB,sC]
    refine tka 42 177 rfl ?_
    simp only[sA,sB,sC]
    refine tka 44 179 rfl ?_
    simp only[sA,sB,sC]
    refine tka 45 180 rfl ?_
    simp only[sA,sB,sC]
    refine tka 46 181 rfl ?_
    simp only[sA,sB,sC]
    refine tka 47 182 rfl ?_ (hy:=by (intro w h;(try dsimp only at h);have q0:=zj h x0 (ze x0);have q1:=zj h t0 (ze t0);have q2:=zj h t1 (ze t1);have q3:=zj h t2 (ze t2);have q4:=zj h t4 (ze t4);clear h;go_simp;(try with_reducible rfl)))
    simp only[sA,sB,sC]
    refine tka 48 183 rfl ?_
    simp only[sA,sB,sC]
    refine wpAnyH_ready (rs:=[43]) (by kernel_rfl) (by simp) ?_
    refine AllReadyH.cons (o:={ dst:=some 178,op:=_,type:=_,pos:=_,after:=_,guard:=_ }) rfl (fun K hK=>?_) AllReadyH.nil
    refine aaq (by rfl) (by simp[Act.eval,ent153,go_sem]) ((aln ((za HG).keep hHeld30) (za HX)).mono ?_)
    rintro e w2 ⟨rfl,hb2⟩
    refine hK.out _ _ (Below.trans hHeld30 (hb2.mono (Below.size hHeld30))) (fun hHeld43=>?_)
    clear hK K
    simp only[Act.put,sA,sB,sC]
    refine tka 49 184 rfl ?_
    refine tka 50 185 rfl ?_
    simp only[sA,sB,sC]
    refine wpAnyH_done (by kernel_rfl) ?_ _
    go_wp2_with fail
    exact Met.intro (aJ _ _ ⟨rfl,rfl,rfl,rfl,rfl,rfl,rfl,rfl,rfl,hHeld43⟩)
   rintro a w7 ⟨hd,hs,h0,h3,h4,h5,h6,h7,h185,hb7⟩
   obtain⟨f,ha⟩:=ah1 hd hs h0 h3 h4 h5 h6 h7 h185
   clear hd hs h0 h3 h4 h5 h6 h7 h185
   subst ha
   have HJ7:=zc ((za HJ5).keep (za hb7))
   clear hb7 HG HZ5 HJ5 x0 t0 t1 t2 t4 z2 z4 q4 r4
   go_wp2_with fail
   rename_i K4 a4
   have hK4:(∀(a':Act) (wr:World),a'.defers=[]∧a'.tmps.size=408∧a'.tmps.toList[0]?=some (.pointer (some ⟨zb,0,none⟩))∧a'.tmps.toList[3]?=some (.int .i64 L2)∧a'.tmps.toList[4]?=some (.slice gi2 ni2 ci2)∧a'.tmps.toList[5]?=some (.int .i64 (j:Int))∧a'.tmps.toList[6]?=some (.pointer (some ⟨tb,0,none⟩))∧a'.tmps.toList[7]?=some (.int .i64 (s.ad j))∧Tj w wr s.T s.here (j+1) (.slice gi2 ni2 ci2)→K4 a' wr):=fun a' wr hh=>by
    obtain⟨hd,hs,h0,h3,h4,h5,h6,h7,hT'⟩:=hh
    have HQ:=zc hT'
    obtain⟨f,ha⟩:=fr0_3_4_5_6_7 hd hs h0 h3 h4 h5 h6 h7
    clear hd hs h0 h3 h4 h5 h6 h7 hT'
    subst ha
    have hZ:=(za HZA).zr.keep (za HQ).bl
    have HG:=zc ((za HZA).hg.keep (za HQ).bl)
    obtain⟨hb3,hb4⟩:=hZ.ob j t tb vi (za HTT) (za HB1) (za HB2)
    have x0:wr.cell? ⟨zb,0,none⟩=some (.pointer (some ⟨m.hp,0,none⟩)):=zd hZ.blk 0
    have t4:wr.cell? ⟨tb,4,none⟩=some (.slice gs t.is.length cs):=by rw[←za HVS];exact zd hb3 4
    clear hb3 hb4 hZ
    refine a4 _ _ ?_
    go_wp2_with fail
    refine wp_cut (fun a' wx=>a'.defers=[]∧a'.tmps.size=408∧a'.tmps.toList[0]?=some (.pointer (some ⟨zb,0,none⟩))∧a'.tmps.toList[3]?=some (.int .i64 L2)∧a'.tmps.toList[4]?=some (.slice gi2 ni2 ci2)∧a'.tmps.toList[5]?=some (.int .i64 (j:Int))∧a'.tmps.toList[15]?=some (ac8 2)∧Hid (Below wr.heap.size wr wx)) ?rest5 ?first5
    case first5 =>
     intro J K' aJ aK'
     have ent330:∀w:World,Sem.run prog (callFunc 25 #[.pointer (some ⟨m.hp,0,none⟩),.int .i64 (s.ad j),.int .i64 (t.is.length:Int)]) w=.ok (.enter 25 #[.pointer (some ⟨m.hp,0,none⟩),.int .i64 (s.ad j),.int .i64 (t.is.length:Int)]) w:=fun _=>by kernel_rfl
     refine wp_region_held_drew (S:=fun w'=>Below wr.heap.size wr w') (by kernel_rfl) (Below.refl _ _).drew (fun hHeld=>?_)
     refine tka 0 304 rfl ?_
     refine tka 1 305 rfl ?_
     refine tka 2 306 rfl ?_
     refine tka 3 307 rfl ?_ (hy:=by (intro w h;(try dsimp only at h);have q0:=zj h x0 (ze x0);have q1:=zj h t4 (ze t4);clear h;go_simp;(try with_reducible rfl)))
     refine tka 4 308 rfl ?_
     refine tka 5 309 rfl ?_
     refine tka 6 310 rfl ?_
     refine tka 7 311 rfl ?_
     refine tka 8 312 rfl ?_ (hy:=by (intro w h;(try dsimp only at h);have q0:=zj h x0 (ze x0);have q1:=zj h t4 (ze t4);clear h;go_simp;(try with_reducible rfl)))
     refine tka 9 313 rfl ?_
     simp only[sA,sB,sC]
     refine wpAnyH_ready (rs:=[10,14]) (by kernel_rfl) (by simp) ?_
     refine AllReadyH.cons (o:={ dst:=some 314,op:=_,type:=_,pos:=_,after:=_,guard:=_ }) rfl (fun K hK=>?_) (AllReadyH.cons (o:={ dst:=some 14,op:=_,type:=_,pos:=_,after:=_,guard:=_ }) rfl (fun K hK=>?_) AllReadyH.nil)
     ·refine aaq (by kernel_rfl) (by simp[Act.eval,ent330,go_sem]) ((alo ((za HG).keep hHeld) (za HX)).mono ?_)
      rintro e w2 ⟨rfl,hb2⟩
      refine hK.out _ _ (Below.trans hHeld (hb2.mono (Below.size hHeld))) (fun hHeld10=>?_)
      clear hK K
      simp only[Act.put,sA,sB,sC]
      refine tka 11 303 rfl ?_
      refine tka 12 315 rfl ?_
      refine tka 13 316 rfl ?_
      simp only[sA,sB,sC]
      refine wpAnyH_ready (rs:=[14]) (by kernel_rfl) (by simp) ?_
      refine AllReadyH.cons (o:={ dst:=some 14,op:=_,type:=_,pos:=_,after:=_,guard:=_ }) rfl (fun K hK=>?_) AllReadyH.nil
      go_simp
      refine hK.out _ _ (Below.alloc hHeld10 (Below.size hHeld10) _) (fun hHeld14=>?_)
      clear hK K
      try simp only[Act.put,sA,sB,sC]
      refine wpAnyH_ready (rs:=[15]) (by kernel_rfl) (by simp) ?_
      refine AllReadyH.cons (o:={ dst:=none,op:=_,type:=_,pos:=_,after:=_,guard:=_ }) rfl (fun K hK=>?_) AllReadyH.nil
      go_simp
      refine hK.out _ _ hHeld14 (fun hHeld15=>?_)
      clear hK K
      try simp only[Act.put,sA,sB,sC]
      refine tka 16 15 rfl ?_
      simp only[sA,sB,sC]
      refine wpAnyH_done (by kernel_rfl) ?_ _
      go_wp2_with fail
      exact Met.intro (aJ _ _ ⟨rfl,rfl,rfl,rfl,rfl,rfl,rfl,hHeld15⟩)
     ·go_simp
      refine hK.out _ _ (Below.alloc hHeld (Below.size hHeld) _) (fun hHeld14=>?_)
      clear hK K
      try simp only[Act.put,sA,sB,sC]
      refine wpAnyH_ready (rs:=[10]) (by kernel_rfl) (by simp) ?_
      refine AllReadyH.cons (o:={ dst:=some 314,op:=_,type:=_,pos:=_,after:=_,guard:=_ }) rfl (fun K hK=>?_) AllReadyH.nil
      refine aaq (by kernel_rfl) (by simp[Act.eval,ent330,go_sem]) ((alo ((za HG).keep hHeld14) (za HX)).mono ?_)
      rintro e w2 ⟨rfl,hb2⟩
      have hbk:w2.heap[wr.heap.size]?=some (.cells #[.int .i64 0,.int .i64 0,.string ⟨#[]⟩] 69 (0,0)):=(hb2.block _ (by simp)).trans (aan wr.drew _)
      have k0:w2.cell? ⟨wr.heap.size,0,none⟩=some (.int .i64 0):=zd hbk 0
      have kf0:w2.frozen? ⟨wr.heap.size,0,none⟩=false:=zt hbk 0
      have k1:w2.cell? ⟨wr.heap.size,1,none⟩=some (.int .i64 0):=zd hbk 1
      have kf1:w2.frozen? ⟨wr.heap.size,1,none⟩=false:=zt hbk 1
      have k2:w2.cell? ⟨wr.heap.size,2,none⟩=some (.string ⟨#[]⟩):=zd hbk 2
      have kf2:w2.frozen? ⟨wr.heap.size,2,none⟩=false:=zt hbk 2
      clear hbk
      refine hK.out _ _ (Below.trans hHeld14 (hb2.mono (Below.size hHeld14))) (fun hHeld10=>?_)
      clear hK K
      simp only[Act.put,sA,sB,sC]
      refine tka 11 303 rfl ?_
      refine tka 12 315 rfl ?_
      refine tka 13 316 rfl ?_
      simp only[sA,sB,sC]
      refine wpAnyH_ready (rs:=[15]) (by kernel_rfl) (by simp) ?_
      refine AllReadyH.cons (o:={ dst:=none,op:=_,type:=_,pos:=_,after:=_,guard:=_ }) rfl (fun K hK=>?_) AllReadyH.nil
      go_simp
      refine hK.out _ _ (by first | exact hHeld10 | exact Below.setCell (p:=⟨wr.heap.size,2,none⟩) (Below.setCell (p:=⟨wr.heap.size,1,none⟩) (Below.setCell (p:=⟨wr.heap.size,0,none⟩) hHeld10 (Nat.le_refl _) _) (Nat.le_refl _) _) (Nat.le_refl _) _) (fun hHeld15=>?_)
      clear hK K
      try simp only[Act.put,sA,sB,sC]
      refine tka 16 15 rfl ?_
      simp only[sA,sB,sC]
      refine wpAnyH_done (by kernel_rfl) ?_ _
      go_wp2_with fail
      exact Met.intro (aJ _ _ ⟨rfl,rfl,rfl,rfl,rfl,rfl,rfl,hHeld15⟩)
    rintro a w8 ⟨hd,hs,h0,h3,h4,h5,h15,hb8⟩
    obtain⟨f,ha⟩:=alp hd hs h0 h3 h4 h5 h15
    clear hd hs h0 h3 h4 h5 h15
    subst ha
    have HJ8:=zc ((za HQ).keep (za hb8))
    have h22:(((2:Int)==2)&&((-1:Int)==-1))=true:=by decide
    clear hb8
    go_wp2_with fail
    refine(ab4 (v:=ac8 2) (n:=2) (p:=-1) (Or.inr (Or.inl ⟨rfl,rfl⟩)) ((za HT).keep (za HJ8).bl) 2).mono ?_
    rintro e w9 ⟨rfl,hb9⟩
    rw[h22]
    have HJ9:=zc ((za HJ8).keep hb9)
    clear hb9
    go_wp2_with fail
    exact za HK1 _ _ _ ⟨rfl,rfl,rfl,rfl,rfl,rfl,za HJ9⟩
   clear a4
   show Code.wp _ _ (Exit.inBlock 2 (Exit.then K4 (Exit.inBlock 1 (Exit.then K1 (Exit.then K (Exit.inBlock 0 (Exit.then K0 (bodyPost prog Tryz.f9 fun e w'=>e=.returned (.bool true)∧Below w.heap.size w w')))))))) _ _
   revert f
   exact za HR3 K0 j K tb L2 K1 gi2 ni2 ci2 w7 K4 t vi hr (za HTT) (za HB1) (za HB2) (za HHR) (za HKN) (za HL2) hid2 (za HJ7) hK4
end
end Go.Proofs.YtpnghfghdbijlaaGreatDoor
