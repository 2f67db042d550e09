/- A part. -/
import Derived.Test.YtpnghfghdbijlaaGreatDoorM04
open Go.Proofs.Tryz
namespace Go.Proofs.YtpnghfghdbijlaaGreatDoor
open Go.RowKit
set_option linter.unusedVariables false
set_option linter.unusedSimpArgs false
set_option maxRecDepth 100000
set_option maxHeartbeats 40000000
theorem akr {B:Nat} {w:World} {b o:Nat} {cs:Array Value} {T:TypeId} {f:Int} {l:List HO} {vo vf:Value} (h:PtB B w b o cs T f l vo vf) (hB:B≤w.heap.size) (x:HO) (hx0:x.fs=[]) (hxn:x.noted=false) (bg:Int) (nt:Bool) {q:Option Addr} {c:Nat} (hf0:0≤f) (hf1:f+2*l.length+2≤4611686018427387904) (hfo:l.length+1≤10000000) (ho:o+2<cs.size) :
  Calls prog 16 #[.pointer (some ⟨b,o,none⟩),.agg #[.int .i64 x.kind,.int .i64 x.tag,.int .i64 x.id,.int .i64 bg,.int .i64 0,.bool nt],.slice q 0 c] w fun e w'=>AddG B w b o cs T f l x vo vf e w':=by
 have KP:=zc h
 obtain⟨gf,cf,hvf⟩:=aaa h.flds
 have c2:w.cell? ⟨b,o+2,none⟩=some vf:=(zd h.blk (o+2)).trans h.e2
 have hbl:=hlt h.blk
 subst hvf
 have HX0:=zc hx0
 have hfw:=h.few
 have HXN:=zc hxn
 obtain⟨i0,hi,hz0,hz1,hz2⟩:=info_parts aht
 obtain⟨i1,hi1,hy0,hy1,hy2⟩:=info_parts agd
 clear h hx0 hxn
 go_enter func16,ntmps16
 go_wp2_with fail
 have HW0:=zc (aan w (.cells #[.int .i64 x.kind,.int .i64 x.tag,.int .i64 x.id,.int .i64 (zg l).length,.int .i64 0,.bool false] 61))
 have hba:Below w.heap.size w (w.alloc (.cells #[.int .i64 x.kind,.int .i64 x.tag,.int .i64 x.id,.int .i64 (zg l).length,.int .i64 0,.bool false] 61)):=(Below.refl _ _).alloc (Nat.le_refl _) _
 have HBA:=zc hba
 have hs1:(w.alloc (.cells #[.int .i64 x.kind,.int .i64 x.tag,.int .i64 x.id,.int .i64 (zg l).length,.int .i64 0,.bool false] 61)).heap.size=w.heap.size+1:=by simp
 generalize w.alloc (.cells #[.int .i64 x.kind,.int .i64 x.tag,.int .i64 x.id,.int .i64 (zg l).length,.int .i64 0,.bool false] 61)=W at *
 clear c2 hba
 have HS1:=zc hs1
 have HBLK:=zc (((za HBA).block b (hlt (za KP).blk)).trans (za KP).blk)
 have c1:W.cell? ⟨b,o+1,none⟩=some vo:=(zd (za HBLK) (o+1)).trans (za KP).e1
 have d1:=aac c1
 have HO:=zc (aa8 (aa8 (za KP).objs (za HBA)) ((Below.refl _ _).alloc (Nat.le_refl _) (.cells #[.int .i64 x.kind,.int .i64 x.tag,.int .i64 x.id,.int .i64 (zg l).length,.int .i64 0,.bool false] 61)))
 have HVT:=zc (zp (za KP).objs)
 have HFT:=zc (zp (za KP).flds)
 clear hs1
 refine wp_region_held_drew (S:=(fun w'=>w'.cell? ⟨w.heap.size,0,none⟩=some (.int .i64 x.kind)∧w'.cell? ⟨w.heap.size,1,none⟩=some (.int .i64 x.tag)∧w'.cell? ⟨w.heap.size,2,none⟩=some (.int .i64 x.id)∧w'.cell? ⟨w.heap.size,3,none⟩=some (.int .i64 (zg l).length)∧w'.cell? ⟨w.heap.size,4,none⟩=some (.int .i64 0)∧w'.cell? ⟨w.heap.size,5,none⟩=some (.bool false))) (by kernel_rfl) ⟨zd (za HW0) 0,zd (za HW0) 1,zd (za HW0) 2,zd (za HW0) 3,zd (za HW0) 4,zd (za HW0) 5⟩ (fun hHeld=>?_)
 refine wpAnyH_take (i:=0) (oi:={ dst:=some 14,op:=_,type:=_,pos:=_,after:=_,guard:=_ }) (v:=?_) rfl (by kernel_rfl) (by kernel_rfl) (by kernel_rfl) (fun _ _ _ h=>h) (Or.inl ⟨by rfl,?_⟩) (by assumption) ?_
 case refine_2 =>
  intro w hSw
  try dsimp only at hSw
  go_simp
  try with_reducible rfl
 simp only[Act.put,sA,sB,sC]
 refine wpAnyH_take (i:=1) (oi:={ dst:=some 15,op:=_,type:=_,pos:=_,after:=_,guard:=_ }) (v:=?_) rfl (by kernel_rfl) (by kernel_rfl) (by kernel_rfl) (fun _ _ _ h=>h) (Or.inl ⟨by rfl,?_⟩) (by assumption) ?_
 case refine_2 =>
  intro w hSw
  try dsimp only at hSw
  go_simp
  try with_reducible rfl
 simp only[Act.put,sA,sB,sC]
 refine wpAnyH_take (i:=2) (oi:={ dst:=some 16,op:=_,type:=_,pos:=_,after:=_,guard:=_ }) (v:=?_) rfl (by kernel_rfl) (by kernel_rfl) (by kernel_rfl) (fun _ _ _ h=>h) (Or.inl ⟨by rfl,?_⟩) (by assumption) ?_
 case refine_2 =>
  intro w hSw
  try dsimp only at hSw
  go_simp
  try with_reducible rfl
 simp only[Act.put,sA,sB,sC]
 refine wpAnyH_take (i:=3) (oi:={ dst:=some 17,op:=_,type:=_,pos:=_,after:=_,guard:=_ }) (v:=?_) rfl (by kernel_rfl) (by kernel_rfl) (by kernel_rfl) (fun _ _ _ h=>h) (Or.inl ⟨by rfl,?_⟩) (by assumption) ?_
 case refine_2 =>
  intro w hSw
  try dsimp only at hSw
  go_simp
  try with_reducible rfl
 simp only[Act.put,sA,sB,sC]
 refine wpAnyH_take (i:=5) (oi:={ dst:=some 19,op:=_,type:=_,pos:=_,after:=_,guard:=_ }) (v:=?_) rfl (by kernel_rfl) (by kernel_rfl) (by kernel_rfl) (fun _ _ _ h=>h) (Or.inl ⟨by rfl,?_⟩) (by assumption) ?_
 case refine_2 =>
  intro w hSw
  try dsimp only at hSw
  go_simp
  try with_reducible rfl
 simp only[Act.put,sA,sB,sC]
 refine wpAnyH_ready (rs:=[4,6]) (by kernel_rfl) (by simp) ?_
 refine AllReadyH.cons (o:={ dst:=some 18,op:=_,type:=_,pos:=_,after:=_,guard:=_ }) rfl (fun K hK=>?_) ?_
 ·go_simp
  refine hK.out _ _ (by assumption) (fun hHeld4=>?_)
  clear hK K
  refine wpAnyH_ready (rs:=[6]) (by kernel_rfl) (by simp) ?_
  refine AllReadyH.cons (o:={ dst:=some 20,op:=_,type:=_,pos:=_,after:=_,guard:=_ }) rfl (fun K hK=>?_) AllReadyH.nil
  go_simp
  refine hK.out _ _ ⟨aac (zd (za HW0) 0) _,aac (zd (za HW0) 1) _,aac (zd (za HW0) 2) _,aac (zd (za HW0) 3) _,aac (zd (za HW0) 4) _,aac (zd (za HW0) 5) _⟩ (fun hHeld6=>?_)
  clear hK K
  refine wpAnyH_ready (rs:=[7]) (by kernel_rfl) (by simp) ?_
  refine AllReadyH.cons (o:={ dst:=some 21,op:=_,type:=_,pos:=_,after:=_,guard:=_ }) rfl (fun K hK=>?_) AllReadyH.nil
  refine step_append_lies _ (by rfl) _ _ _ (by rfl) B 61 i0 (.agg #[.int .i64 0,.int .i64 0,.int .i64 0,.int .i64 0,.int .i64 0,.bool false]) 6 48 underlying45 hi hz0 hz1 hz2 rfl (by decide) vo l.length (aa7 0 l) (by rfl) (za HO) ⟨W.heap.size,0,none⟩ 1 1 [.int .i64 x.kind,.int .i64 x.tag,.int .i64 x.id,.int .i64 (zg l).length,.int .i64 0,.bool false] (by rfl) rfl (afg (by simp) _ _) (aey _ _ _ _ _ _) (by decide) (by unfold maxLen;omega) (by omega) (by have:=za HS1;simp;omega) (W.heap.size+1) (by simp) ?_
  intro g cap w3 hown hgrow hat hlt3
  have hold:∀j,j<W.heap.size→vo.ownBlock≠some j→w3.heap[j]?=W.heap[j]?:=fun j hj hv=>(hgrow.block j (by simp;omega) (fun q=>hv q.symm)).trans (Below.heap_alloc _ _ _ hj)
  have hnv:vo.ownBlock≠some w.heap.size:=fun q=>by have:=(za HVT _ q).2.1;omega
  have hbv:vo.ownBlock≠some b:=fun q=>by
   obtain⟨_,_,cs',q3⟩:=za HVT _ q
   rw[(za KP).blk] at q3
   cases q3
   exact(za KP).tO rfl
  have hnb:=(hold w.heap.size (by have:=za HS1;omega) hnv).trans (za HW0)
  have hhb:=(hold b (hlt (za HBLK)) hbv).trans (za HBLK)
  have z1:w3.cell? ⟨b,o+1,none⟩=some vo:=(zd hhb (o+1)).trans (za KP).e1
  have y1:=zt hhb (o+1)
  have HHB:=zc hhb
  have HOWN:=zc hown
  have HOLD:=zc hold
  have HGR:=zc (show w3.os=w.os∧w3.tape=w.tape∧w3.output=w.output∧w.heap.size≤w3.heap.size from ⟨hgrow.os.trans (za HBA).os,hgrow.tape.trans (za HBA).tape,hgrow.output.trans (za HBA).output,by have:=hgrow.size;have:=za HS1;simp at *;omega⟩)
  have HAT:=zc hat
  have hbn:b≠w.heap.size:=by omega
  have s4:∀u,(w3.setCell ⟨b,o+1,none⟩ u).heap[w.heap.size]?=_:=fun u=>(zo u (Ne.symm hbn)).trans hnb
  clear hown hgrow hat hlt3 hold hhb hnv hbv
  refine hK.out _ _ ⟨zd hnb 0,zd hnb 1,zd hnb 2,zd hnb 3,zd hnb 4,zd hnb 5⟩ (fun hHeldA=>?_)
  clear hK K
  simp only[Act.put,sA,sB,sC]
  refine wpAnyH_take (i:=8) (oi:={ dst:=some 22,op:=_,type:=_,pos:=_,after:=_,guard:=_ }) (v:=?_) rfl (by kernel_rfl) (by kernel_rfl) (by kernel_rfl) (fun _ _ _ h=>h) (Or.inl ⟨by rfl,?_⟩) (by assumption) ?_
  case refine_2 =>
   intro w hSw
   try dsimp only at hSw
   go_simp
   try with_reducible rfl
  simp only[Act.put,sA,sB,sC]
  refine wpAnyH_take (i:=9) (oi:={ dst:=some 23,op:=_,type:=_,pos:=_,after:=_,guard:=_ }) (v:=?_) rfl (by kernel_rfl) (by kernel_rfl) (by kernel_rfl) (fun _ _ _ h=>h) (Or.inl ⟨by rfl,?_⟩) (by assumption) ?_
  case refine_2 =>
   intro w hSw
   try dsimp only at hSw
   go_simp
   try with_reducible rfl
  simp only[Act.put,sA,sB,sC]
  refine wpAnyH_ready (rs:=[10]) (by kernel_rfl) (by simp) ?_
  refine AllReadyH.cons (o:={ dst:=none,op:=_,type:=_,pos:=_,after:=_,guard:=_ }) rfl (fun K hK=>?_) AllReadyH.nil
  go_simp
  refine hK.out _ _ ⟨zd (s4 _) 0,zd (s4 _) 1,zd (s4 _) 2,zd (s4 _) 3,zd (s4 _) 4,zd (s4 _) 5⟩ (fun hHeldS=>?_)
  clear hK K
  refine wpAnyH_done (by kernel_rfl) ?_ _
  clear z1 y1 s4 hHeldS
  obtain⟨v4,hv4⟩:∃v4,(Value.slice (some ⟨g,0,none⟩) (l.length+1) cap)=v4:=⟨_,rfl⟩
  have hblk4:=aad (za HHB) (o+1) v4
  have hfr4:∀j,j<w.heap.size→j≠b→vo.ownBlock≠some j→(w3.setCell ⟨b,o+1,none⟩ v4).heap[j]?=w.heap[j]?:=fun j hj hjb hjv=>(zo v4 hjb).trans ((za HOLD j (by have:=za HS1;omega) hjv).trans ((za HBA).block j hj))
  have hvfb:∀j,(Value.slice gf (zg l).length cf).ownBlock=some j→j≠b∧vo.ownBlock≠some j:=fun j hj=>by
   obtain⟨_,_,cs',q3⟩:=za HFT j hj
   refine⟨fun q=>?_,fun q=>?_⟩
   ·subst q
    rw[(za KP).blk] at q3
    cases q3
    exact(za KP).tV rfl
   ·obtain⟨_,_,cs'',q4⟩:=za HVT j q
    rw[q3] at q4
    cases q4
  have HFL4:=zc (zs (w':=w3.setCell ⟨b,o+1,none⟩ v4) (za KP).flds fun j hj=>hfr4 j (za HFT j hj).2.1 (hvfb j hj).1 (hvfb j hj).2)
  have HOB4:Hid ((w3.setCell ⟨b,o+1,none⟩ v4).ownsRow B 61 6 v4 (l.length+1) (aa7 0 l++[.int .i64 x.kind,.int .i64 x.tag,.int .i64 x.id,.int .i64 (zg l).length,.int .i64 0,.bool false])):=by
   rw[←hv4]
   refine zs (za HOWN) fun j hj=>zo _ fun q=>?_
   subst q
   obtain⟨_,_,cs',q3⟩:=zp (za HOWN) j hj
   rw[za HHB] at q3
   cases q3
   exact(za KP).tO rfl
  have hsz4:w.heap.size≤(w3.setCell ⟨b,o+1,none⟩ v4).heap.size:=by have:=(za HGR).2.2.2;simpa [World.setCell] using this
  have c42:(w3.setCell ⟨b,o+1,none⟩ v4).cell? ⟨b,o+2,none⟩=some (.slice gf (zg l).length cf):=by
   rw[zd hblk4 (o+2),Array.getElem?_setIfInBounds_ne (by omega)]
   exact(za KP).e2
  have HG4:=zc (show (w3.setCell ⟨b,o+1,none⟩ v4).os=w.os∧(w3.setCell ⟨b,o+1,none⟩ v4).tape=w.tape∧(w3.setCell ⟨b,o+1,none⟩ v4).output=w.output from ⟨(za HGR).1,(za HGR).2.1,(za HGR).2.2.1⟩)
  rw[hv4]
  have HV4:=zc hv4
  have HBLK4:=zc hblk4
  have HFR4:=zc hfr4
  have HVFB:=zc hvfb
  generalize w3.setCell ⟨b,o+1,none⟩ v4=w4 at *
  clear hblk4 hfr4 hvfb hv4
  have hblk6:=aad (za HBLK4) (o+2) (.slice gf (zg l).length cf)
  have e1:w4.cell? ⟨b,o+1,none⟩=some (.slice (some ⟨g,0,none⟩) (l.length+1) cap):=by
   rw[zd (za HBLK4) (o+1),za HV4]
   simp[show o+1<cs.size by omega]
  have y2:=zt (za HBLK4) (o+2)
  have e6:(w4.setCell ⟨b,o+2,none⟩ (.slice gf (zg l).length cf)).cell? ⟨b,o,none⟩=some (.int .i64 f):=by
   rw[zd hblk6 o,Array.getElem?_setIfInBounds_ne (by omega),Array.getElem?_setIfInBounds_ne (by omega)]
   exact(za KP).e0
  have HPT:Hid (PtB B (w4.setCell ⟨b,o+2,none⟩ (.slice gf (zg l).length cf)) b o ((cs.setIfInBounds (o+1) v4).setIfInBounds (o+2) (.slice gf (zg l).length cf)) T f (l++[x]) v4 (.slice gf (zg l).length cf)):=by
   have hal:(zg (l++[x])).length=(zg l).length:=by rw[ad5,za HX0];rfl
   refine⟨hblk6,?_,?_,?_,?_,?_,?_,?_,(za KP).tO,(za KP).tV⟩
   ·rw[Array.getElem?_setIfInBounds_ne (by omega),Array.getElem?_setIfInBounds_ne (by omega)]
    exact(za KP).e0
   ·rw[Array.getElem?_setIfInBounds_ne (by omega)]
    simp[show o+1<cs.size by omega]
   ·simp[show o+2<cs.size by omega]
   ·have hk:=zs (w':=w4.setCell ⟨b,o+2,none⟩ (.slice gf (zg l).length cf)) (za HOB4) fun j hj=>by
     obtain⟨_,hj2,cs',q3⟩:=zp (za HOB4) j hj
     exact zo _ (fun q=>by
      subst q
      rw[za HBLK4] at q3
      cases q3
      exact(za KP).tO rfl)
    rw[List.length_append,afv,show aaz (zg l).length x=[.int .i64 x.kind,.int .i64 x.tag,.int .i64 x.id,.int .i64 (zg l).length,.int .i64 0,.bool false] by simp[aaz,za HXN,za HX0]]
    exact hk
   ·rw[hal,afw,za HX0]
    simp only[List.flatMap_nil,List.append_nil]
    exact zs (za HFL4) fun j hj=>zo _ (za HVFB j hj).1
   ·rw[hal];omega
   ·simp;omega
  have HFRA:Hid (FrA b vo (.slice gf (zg l).length cf) w (w4.setCell ⟨b,o+2,none⟩ (.slice gf (zg l).length cf))):=⟨(za HG4).1,(za HG4).2.1,(za HG4).2.2,by simp[World.setCell];omega,fun k hk h1 h2 _=>(zo _ h1).trans (za HFR4 k hk h1 h2)⟩
  have HW1:Hid (v4.ownBlock=vo.ownBlock∨∀j,v4.ownBlock=some j→w.heap.size≤j):=by
   rw[←za HV4]
   rcases za HAT with q | q
   ·exact Or.inl q.symm
   ·refine Or.inr fun j hj=>?_
    simp only[Value.ownBlock,Option.some.injEq] at hj
    have:=za HS1
    omega
  have wl:IntKind.i64.wrap (l.length:Int)=(l.length:Int):=aav (by omega) (by omega)
  have HE6:=zc e6
  clear hblk6 e6
  go_wp2_with (at_builtin;refine aez rfl _ _ _ rfl underlying32 hi1 rfl (za HFL4) rfl ?_)
  refine(adv (za HE6) (i:=l.length) hf0 (by omega)).mono ?_
  rintro e w7 ⟨rfl,rfl⟩
  go_wp2_with fail
  go_ret
  exact⟨rfl,v4,_,za HPT,za HFRA,za HW1,Or.inl rfl⟩
 refine AllReadyH.cons (o:={ dst:=some 20,op:=_,type:=_,pos:=_,after:=_,guard:=_ }) rfl (fun K hK=>?_) AllReadyH.nil
 go_simp
 refine hK.out _ _ ⟨aac (zd (za HW0) 0) _,aac (zd (za HW0) 1) _,aac (zd (za HW0) 2) _,aac (zd (za HW0) 3) _,aac (zd (za HW0) 4) _,aac (zd (za HW0) 5) _⟩ (fun hHeld6=>?_)
 clear hK K
 refine wpAnyH_ready (rs:=[4]) (by kernel_rfl) (by simp) ?_
 refine AllReadyH.cons (o:={ dst:=some 18,op:=_,type:=_,pos:=_,after:=_,guard:=_ }) rfl (fun K hK=>?_) AllReadyH.nil
 go_simp
 refine hK.out _ _ (by assumption) (fun hHeld4=>?_)
 clear hK K
 refine wpAnyH_ready (rs:=[7]) (by kernel_rfl) (by simp) ?_
 refine AllReadyH.cons (o:={ dst:=some 21,op:=_,type:=_,pos:=_,after:=_,guard:=_ }) rfl (fun K hK=>?_) AllReadyH.nil
 refine step_append_lies _ (by rfl) _ _ _ (by rfl) B 61 i0 (.agg #[.int .i64 0,.int .i64 0,.int .i64 0,.int .i64 0,.int .i64 0,.bool false]) 6 48 underlying45 hi hz0 hz1 hz2 rfl (by decide) vo l.length (aa7 0 l) (by rfl) (za HO) ⟨W.heap.size,0,none⟩ 1 1 [.int .i64 x.kind,.int .i64 x.tag,.int .i64 x.id,.int .i64 (zg l).length,.int .i64 0,.bool false] (by rfl) rfl (afg (by simp) _ _) (aey _ _ _ _ _ _) (by decide) (by unfold maxLen;omega) (by omega) (by have:=za HS1;simp;omega) (W.heap.size+1) (by simp) ?_
 intro g cap w3 hown hgrow hat hlt3
 have hold:∀j,j<W.heap.size→vo.ownBlock≠some j→w3.heap[j]?=W.heap[j]?:=fun j hj hv=>(hgrow.block j (by simp;omega) (fun q=>hv q.symm)).trans (Below.heap_alloc _ _ _ hj)
 have hnv:vo.ownBlock≠some w.heap.size:=fun q=>by have:=(za HVT _ q).2.1;omega
 have hbv:vo.ownBlock≠some b:=fun q=>by
  obtain⟨_,_,cs',q3⟩:=za HVT _ q
  rw[(za KP).blk] at q3
  cases q3
  exact(za KP).tO rfl
 have hnb:=(hold w.heap.size (by have:=za HS1;omega) hnv).trans (za HW0)
 have hhb:=(hold b (hlt (za HBLK)) hbv).trans (za HBLK)
 have z1:w3.cell? ⟨b,o+1,none⟩=some vo:=(zd hhb (o+1)).trans (za KP).e1
 have y1:=zt hhb (o+1)
 have HHB:=zc hhb
 have HOWN:=zc hown
 have HOLD:=zc hold
 have HGR:=zc (show w3.os=w.os∧w3.tape=w.tape∧w3.output=w.output∧w.heap.size≤w3.heap.size from ⟨hgrow.os.trans (za HBA).os,hgrow.tape.trans (za HBA).tape,hgrow.output.trans (za HBA).output,by have:=hgrow.size;have:=za HS1;simp at *;omega⟩)
 have HAT:=zc hat
 have hbn:b≠w.heap.size:=by omega
 have s4:∀u,(w3.setCell ⟨b,o+1,none⟩ u).heap[w.heap.size]?=_:=fun u=>(zo u (Ne.symm hbn)).trans hnb
 clear hown hgrow hat hlt3 hold hhb hnv hbv
 refine hK.out _ _ ⟨zd hnb 0,zd hnb 1,zd hnb 2,zd hnb 3,zd hnb 4,zd hnb 5⟩ (fun hHeldA=>?_)
 clear hK K
 simp only[Act.put,sA,sB,sC]
 refine wpAnyH_take (i:=8) (oi:={ dst:=some 22,op:=_,type:=_,pos:=_,after:=_,guard:=_ }) (v:=?_) rfl (by kernel_rfl) (by kernel_rfl) (by kernel_rfl) (fun _ _ _ h=>h) (Or.inl ⟨by rfl,?_⟩) (by assumption) ?_
 case refine_2 =>
  intro w hSw
  try dsimp only at hSw
  go_simp
  try with_reducible rfl
 simp only[Act.put,sA,sB,sC]
 refine wpAnyH_take (i:=9) (oi:={ dst:=some 23,op:=_,type:=_,pos:=_,after:=_,guard:=_ }) (v:=?_) rfl (by kernel_rfl) (by kernel_rfl) (by kernel_rfl) (fun _ _ _ h=>h) (Or.inl ⟨by rfl,?_⟩) (by assumption) ?_
 case refine_2 =>
  intro w hSw
  try dsimp only at hSw
  go_simp
  try with_reducible rfl
 simp only[Act.put,sA,sB,sC]
 refine wpAnyH_ready (rs:=[10]) (by kernel_rfl) (by simp) ?_
 refine AllReadyH.cons (o:={ dst:=none,op:=_,type:=_,pos:=_,after:=_,guard:=_ }) rfl (fun K hK=>?_) AllReadyH.nil
 go_simp
 refine hK.out _ _ ⟨zd (s4 _) 0,zd (s4 _) 1,zd (s4 _) 2,zd (s4 _) 3,zd (s4 _) 4,zd (s4 _) 5⟩ (fun hHeldS=>?_)
 clear hK K
 refine wpAnyH_done (by kernel_rfl) ?_ _
 clear z1 y1 s4 hHeldS
 obtain⟨v4,hv4⟩:∃v4,(Value.slice (some ⟨g,0,none⟩) (l.length+1) cap)=v4:=⟨_,rfl⟩
 have hblk4:=aad (za HHB) (o+1) v4
 have hfr4:∀j,j<w.heap.size→j≠b→vo.ownBlock≠some j→(w3.setCell ⟨b,o+1,none⟩ v4).heap[j]?=w.heap[j]?:=fun j hj hjb hjv=>(zo v4 hjb).trans ((za HOLD j (by have:=za HS1;omega) hjv).trans ((za HBA).block j hj))
 have hvfb:∀j,(Value.slice gf (zg l).length cf).ownBlock=some j→j≠b∧vo.ownBlock≠some j:=fun j hj=>by
  obtain⟨_,_,cs',q3⟩:=za HFT j hj
  refine⟨fun q=>?_,fun q=>?_⟩
  ·subst q
   rw[(za KP).blk] at q3
   cases q3
   exact(za KP).tV rfl
  ·obtain⟨_,_,cs'',q4⟩:=za HVT j q
   rw[q3] at q4
   cases q4
 have HFL4:=zc (zs (w':=w3.setCell ⟨b,o+1,none⟩ v4) (za KP).flds fun j hj=>hfr4 j (za HFT j hj).2.1 (hvfb j hj).1 (hvfb j hj).2)
 have HOB4:Hid ((w3.setCell ⟨b,o+1,none⟩ v4).ownsRow B 61 6 v4 (l.length+1) (aa7 0 l++[.int .i64 x.kind,.int .i64 x.tag,.int .i64 x.id,.int .i64 (zg l).length,.int .i64 0,.bool false])):=by
  rw[←hv4]
  refine zs (za HOWN) fun j hj=>zo _ fun q=>?_
  subst q
  obtain⟨_,_,cs',q3⟩:=zp (za HOWN) j hj
  rw[za HHB] at q3
  cases q3
  exact(za KP).tO rfl
 have hsz4:w.heap.size≤(w3.setCell ⟨b,o+1,none⟩ v4).heap.size:=by have:=(za HGR).2.2.2;simpa [World.setCell] using this
 have c42:(w3.setCell ⟨b,o+1,none⟩ v4).cell? ⟨b,o+2,none⟩=some (.slice gf (zg l).length cf):=by
  rw[zd hblk4 (o+2),Array.getElem?_setIfInBounds_ne (by omega)]
  exact(za KP).e2
 have HG4:=zc (show (w3.setCell ⟨b,o+1,none⟩ v4).os=w.os∧(w3.setCell ⟨b,o+1,none⟩ v4).tape=w.tape∧(w3.setCell ⟨b,o+1,none⟩ v4).output=w.output from ⟨(za HGR).1,(za HGR).2.1,(za HGR).2.2.1⟩)
 rw[hv4]
 have HV4:=zc hv4
 have HBLK4:=zc hblk4
 have HFR4:=zc hfr4
 have HVFB:=zc hvfb
 generalize w3.setCell ⟨b,o+1,none⟩ v4=w4 at *
 clear hblk4 hfr4 hvfb hv4
 have hblk6:=aad (za HBLK4) (o+2) (.slice gf (zg l).length cf)
 have e1:w4.cell? ⟨b,o+1,none⟩=some (.slice (some ⟨g,0,none⟩) (l.length+1) cap):=by
  rw[zd (za HBLK4) (o+1),za HV4]
  simp[show o+1<cs.size by omega]
 have y2:=zt (za HBLK4) (o+2)
 have e6:(w4.setCell ⟨b,o+2,none⟩ (.slice gf (zg l).length cf)).cell? ⟨b,o,none⟩=some (.int .i64 f):=by
  rw[zd hblk6 o,Array.getElem?_setIfInBounds_ne (by omega),Array.getElem?_setIfInBounds_ne (by omega)]
  exact(za KP).e0
 have HPT:Hid (PtB B (w4.setCell ⟨b,o+2,none⟩ (.slice gf (zg l).length cf)) b o ((cs.setIfInBounds (o+1) v4).setIfInBounds (o+2) (.slice gf (zg l).length cf)) T f (l++[x]) v4 (.slice gf (zg l).length cf)):=by
  have hal:(zg (l++[x])).length=(zg l).length:=by rw[ad5,za HX0];rfl
  refine⟨hblk6,?_,?_,?_,?_,?_,?_,?_,(za KP).tO,(za KP).tV⟩
  ·rw[Array.getElem?_setIfInBounds_ne (by omega),Array.getElem?_setIfInBounds_ne (by omega)]
   exact(za KP).e0
  ·rw[Array.getElem?_setIfInBounds_ne (by omega)]
   simp[show o+1<cs.size by omega]
  ·simp[show o+2<cs.size by omega]
  ·have hk:=zs (w':=w4.setCell ⟨b,o+2,none⟩ (.slice gf (zg l).length cf)) (za HOB4) fun j hj=>by
    obtain⟨_,hj2,cs',q3⟩:=zp (za HOB4) j hj
    exact zo _ (fun q=>by
     subst q
     rw[za HBLK4] at q3
     cases q3
     exact(za KP).tO rfl)
   rw[List.length_append,afv,show aaz (zg l).length x=[.int .i64 x.kind,.int .i64 x.tag,.int .i64 x.id,.int .i64 (zg l).length,.int .i64 0,.bool false] by simp[aaz,za HXN,za HX0]]
   exact hk
  ·rw[hal,afw,za HX0]
   simp only[List.flatMap_nil,List.append_nil]
   exact zs (za HFL4) fun j hj=>zo _ (za HVFB j hj).1
  ·rw[hal];omega
  ·simp;omega
 have HFRA:Hid (FrA b vo (.slice gf (zg l).length cf) w (w4.setCell ⟨b,o+2,none⟩ (.slice gf (zg l).length cf))):=⟨(za HG4).1,(za HG4).2.1,(za HG4).2.2,by simp[World.setCell];omega,fun k hk h1 h2 _=>(zo _ h1).trans (za HFR4 k hk h1 h2)⟩
 have HW1:Hid (v4.ownBlock=vo.ownBlock∨∀j,v4.ownBlock=some j→w.heap.size≤j):=by
  rw[←za HV4]
  rcases za HAT with q | q
  ·exact Or.inl q.symm
  ·refine Or.inr fun j hj=>?_
   simp only[Value.ownBlock,Option.some.injEq] at hj
   have:=za HS1
   omega
 have wl:IntKind.i64.wrap (l.length:Int)=(l.length:Int):=aav (by omega) (by omega)
 have HE6:=zc e6
 clear hblk6 e6
 go_wp2_with (at_builtin;refine aez rfl _ _ _ rfl underlying32 hi1 rfl (za HFL4) rfl ?_)
 refine(adv (za HE6) (i:=l.length) hf0 (by omega)).mono ?_
 rintro e w7 ⟨rfl,rfl⟩
 go_wp2_with fail
 go_ret
 exact⟨rfl,v4,_,za HPT,za HFRA,za HW1,Or.inl rfl⟩
structure Lv where
 l:Nat
 pb:Nat
 po:Nat
 wb:Nat
 vo:Value
 vf:Value
structure LvAt (B:Nat) (w:World) (b:Lv) (p:PL):Prop where
 c0:w.cell? ⟨b.l,0,none⟩=some (.pointer (some ⟨b.pb,b.po,none⟩))
 c1:w.cell? ⟨b.l,1,none⟩=some (.slice (some ⟨b.wb,0,none⟩) p.objs.length p.objs.length)
 wn:w.heap[b.wb]?=some (.cells (p.went.map iv).toArray 3 (0,0))
 full:p.went.length=p.objs.length
 f0:w.cell? ⟨b.pb,b.po,none⟩=some (.int .i64 p.first)
 pt:PtAt B w b.pb b.po p.objs b.vo b.vf
 lo:0≤p.first
 hi:p.first+2*p.objs.length≤4611686018427387904
theorem LvAt.keep {B:Nat} {w w':World} {b:Lv} {p:PL} (h:LvAt B w b p) (hb:Below w.heap.size w w'):LvAt B w' b p :=
 ⟨zj hb h.c0 (ze h.c0),zj hb h.c1 (ze h.c1),(hb.block _ (hlt h.wn)).trans h.wn,h.full,zj hb h.f0 (ze h.f0),h.pt.keep hb,h.lo,h.hi⟩
structure FromAt (B:Nat) (w:World) (fb lb cb:Nat) (ls:List Lv) (L:List PL):Prop where
 c:w.cell? ⟨fb,0,none⟩=some (.slice (some ⟨lb,0,none⟩) ls.length cb)
 at':∀(j:Nat) (b:Lv),ls[j]?=some b→w.cell? ⟨lb,j,none⟩=some (.pointer (some ⟨b.l,0,none⟩))
 len:ls.length=L.length
 few:ls.length≤1000
 lvs:∀(j:Nat) (b:Lv) (p:PL),ls[j]?=some b→L[j]?=some p→LvAt B w b p
theorem FromAt.keep {B:Nat} {w w':World} {fb lb cb:Nat} {ls:List Lv} {L:List PL} (h:FromAt B w fb lb cb ls L) (hb:Below w.heap.size w w'):FromAt B w' fb lb cb ls L :=
 ⟨zj hb h.c (ze h.c),fun j b hj=>zj hb (h.at' j b hj) (ze (h.at' j b hj)),h.len,h.few,fun j b p hj hp=>(h.lvs j b p hj hp).keep hb⟩
def leadV (ls:List Lv):Option (Nat×Nat)→Value
 | none=>.tuple #[.pointer none,.int .i64 0]
 | some q=>match ls[q.1]? with
  | some b=>.tuple #[.pointer (some ⟨b.l,0,none⟩),.int .i64 q.2]
  | none=>.tuple #[.pointer none,.int .i64 0]
def apj (ls:List Lv) (L:List PL) (a:Int) (w:World) (e:Ending) (w':World):Prop:=e=.returned (leadV ls (aab L 0 a))∧Below w.heap.size w w'
theorem amq {L:List PL} {k:Nat} {a:Int} (hk:L.length≤k):aab (L.drop k) k a=none:=by
 rw[List.drop_eq_nil_of_le hk]
 rfl
theorem ajt {L:List PL} {k:Nat} {p:PL} (hp:L[k]?=some p):L.drop k=p :: L.drop (k+1):=by
 have hl:=(List.getElem?_eq_some_iff.1 hp).1
 rw[List.drop_eq_getElem_cons hl,(List.getElem?_eq_some_iff.1 hp).2]
theorem anw {L:List PL} {k i:Nat} {p:PL} {a:Int} (hp:L[k]?=some p) (h:acf p.first p.objs.length a=some i):aab (L.drop k) k a=some (k,i):=by
 rw[ajt hp,aab,h]
theorem amr {L:List PL} {k:Nat} {p:PL} {a:Int} (hp:L[k]?=some p) (h:acf p.first p.objs.length a=none):aab (L.drop k) k a=aab (L.drop (k+1)) (k+1) a:=by
 rw[ajt hp,aab,h]
theorem aeu {f:Int} {n:Nat} {a:Int} (h:∀i:Nat,i<n→a≠f+2*i):acf f n a=none:=by
 cases hn:acf f n a with
 | none=>rfl
 | some i =>
  have:=aa3.1 hn
  exact absurd this.2 (h i this.1)
theorem aiq {B:Nat} {w:World} {fb lb cb:Nat} {ls:List Lv} {L:List PL} (h:FromAt B w fb lb cb ls L) {a:Int} (ha:I64 a) :
  Calls prog 62 #[.int .i64 a,.pointer (some ⟨fb,0,none⟩)] w fun e w'=>apj ls L a w e w':=by
 have H:=zc h
 have HA:=zc ha
 have c:=h.c
 have hfew:=h.few
 have HLEN:=zc h.len
 clear h ha
 go_enter func62,ntmps62
 go_wp2_with fail
 go_loopg [11] ls.length (fun gg i wr=>∃k:Nat,k≤ls.length∧gg=ls.length-k∧i=.int .i64 k∧Hid (Below w.heap.size w wr∧aab (L.drop k) k a=aab L 0 a))
 case atStart=>exact⟨0,Nat.zero_le _,rfl,rfl,Below.refl _ _,rfl⟩
 case round =>
  obtain⟨k,hk,rfl,rfl,HY⟩:=hrel
  by_cases hlk:k<ls.length
  ·have hb:ls[k]?=some (ls[k]'hlk):=List.getElem?_eq_getElem _
   have hp:L[k]?=some (L[k]'(by have:=za HLEN;omega)):=List.getElem?_eq_getElem _
   generalize (ls[k]'hlk)=b at *
   generalize (L[k]'(by have:=za HLEN;omega))=p at *
   have hH:=(za H).keep (za HY).1
   have d0:=hH.at' k b hb
   have hv:=hH.lvs k b p hb hp
   have d1:=hv.c0
   obtain⟨go_,cap_,hvo⟩:=aaa hv.pt.objs
   have d2:=hv.pt.c1
   rw[hvo] at d2
   have HV:=zc hv
   have HD2:=zc d2
   have HBK:=zc hb
   have HPK:=zc hp
   have hk2:(k:Int)<(ls.length:Int):=by omega
   clear hb hp hH hv hvo d2 c
   go_wp2_with fail
   refine(ae7 (za HV).f0 (za HD2) (za HA) (za HV).lo (za HV).hi).mono ?_
   rintro e w1 ⟨q,ok,rfl,hb1,h1,h2⟩
   have HB1:=zc ((za HY).1.trans (hb1.mono (za HY).1.size))
   clear hb1 d0 d1
   cases ok with
   | true =>
    obtain⟨i,hi,rfl,hai⟩:=h1 rfl
    have HI:=zc (anw (za HPK) (aa3.2 ⟨hi,hai⟩))
    clear h1 h2 hi hai
    go_wp2_with fail
    go_ret2
    refine⟨?_,za HB1⟩
    rw[←(za HY).2,za HI]
    simp only[leadV,za HBK]
    rfl
   | false =>
    have HI:=zc (amr (za HPK) (aeu (h2 rfl)))
    clear h1 h2
    go_wp2_with fail
    go_roundg (ls.length-(k+1))
    case measure=>omega
    case rel=>exact⟨k+1,by omega,rfl,by go_num,za HB1,(za HI).symm.trans (za HY).2⟩
  ·obtain rfl:k=ls.length:=by omega
   have hff:decide ((ls.length:Int)<(ls.length:Int))=false:=by simp
   clear c hlk hk
   go_wp2_with fail
   go_ret2
   refine⟨?_,(za HY).1⟩
   rw[←(za HY).2,amq (by have:=za HLEN;omega)]
   rfl
def Typ (w:World) (k:Nat) (t:TypeId):Prop:=∃cs fr,w.heap[k]?=some (.cells cs t fr)
theorem Typ.ne {w:World} {k k':Nat} {t t':TypeId} (h:Typ w k t) (h':Typ w k' t') (hne:t≠t'):k≠k':=by
 rintro rfl
 obtain⟨cs,fr,h1⟩:=h
 obtain⟨cs',fr',h2⟩:=h'
 rw[h1] at h2
 cases h2
 exact hne rfl
theorem Typ.lt {w:World} {k:Nat} {t:TypeId} (h:Typ w k t):k<w.heap.size:=by
 obtain⟨cs,fr,h1⟩:=h
 exact hlt h1
theorem Typ.move {w w':World} {k:Nat} {t:TypeId} (h:Typ w k t) (hb:w'.heap[k]?=w.heap[k]?):Typ w' k t:=by
 obtain⟨cs,fr,h1⟩:=h
 exact⟨cs,fr,hb.trans h1⟩
theorem zu {w:World} {B:Nat} {e:TypeId} {k:Nat} {v:Value} {n:Nat} {xs:List Value} (h:w.ownsRow B e k v n xs) {j:Nat} (hj:v.ownBlock=some j):Typ w j e:=by
 obtain⟨_,_,cs,hc⟩:=zp h j hj
 exact⟨cs,_,hc⟩
def partT (t:TypeId):Prop:=t=51∨t=47
theorem ab5 {t:TypeId} (h:partT t):t≠61∧t≠69∧t≠3∧t≠124∧t≠121∧t≠108∧t≠120:=by
 rcases h with rfl | rfl <;> decide
structure Mb where
 mv:Nat
 fb:Nat
 lb:Nat
 cb:Nat
 tb:Nat
 tp:Nat
 n:Nat
 ls:List Lv
structure MvAt (B:Nat) (w:World) (m:Mb) (M:MS) (cs:Array Value) (T:TypeId) (vto vtf:Value):Prop where
 m0:w.cell? ⟨m.mv,0,none⟩=some (.pointer (some ⟨m.tb,m.tp,none⟩))
 m1:w.cell? ⟨m.mv,1,none⟩=some (.func (.func 62) #[] #[.pointer (some ⟨m.fb,0,none⟩)])
 fr:FromAt B w m.fb m.lb m.cb m.ls M.L
 tpart:PtB B w m.tb m.tp cs T M.ft M.T vto vtf
 sz:m.tp+2<cs.size
 hB:B≤w.heap.size
 tT:partT T
 ymv:Typ w m.mv 124
 yfb:Typ w m.fb 121
 ylb:Typ w m.lb 108
 yl:∀b∈m.ls,Typ w b.l 120
 yp:∀b∈m.ls,∃t,partT t∧Typ w b.pb t
 hd:∀b∈m.ls,b.pb=m.tb→b.po+2<m.tp∨m.tp+2<b.po
 no:∀b∈m.ls,∀j,vto.ownBlock=some j→b.vo.ownBlock≠some j
 nf:∀b∈m.ls,∀j,vtf.ownBlock=some j→b.vf.ownBlock≠some j
 nw:∀(i j:Nat) (b b':Lv),m.ls[i]?=some b→m.ls[j]?=some b'→i≠j→b.wb≠b'.wb
 szn:cs.size=m.n
structure FrM (m:Mb) (vto vtf:Value) (w w':World):Prop where
 os:w'.os=w.os
 tape:w'.tape=w.tape
 output:w'.output=w.output
 size:w.heap.size≤w'.heap.size
 block:∀k,k<w.heap.size→k≠m.tb→(∀b∈m.ls,b.wb≠k)→vto.ownBlock≠some k→vtf.ownBlock≠some k→w'.heap[k]?=w.heap[k]?
 head:∀c,(c<m.tp+1∨m.tp+2<c)→w'.cell? ⟨m.tb,c,none⟩=w.cell? ⟨m.tb,c,none⟩
theorem FrM.of_below {m:Mb} {vto vtf:Value} {w w':World} (h:Below w.heap.size w w') (ht:m.tb<w.heap.size):FrM m vto vtf w w' :=
 ⟨h.os,h.tape,h.output,h.size,fun k hk _ _ _ _=>h.block k hk,fun c _=>h.cell (p:=⟨m.tb,c,none⟩) ht⟩
theorem FrM.trans {m:Mb} {vto vtf vto' vtf':Value} {w w' w'':World} (h:FrM m vto vtf w w') (k:FrM m vto' vtf' w' w'')
  (ho:vto'.ownBlock=vto.ownBlock∨∀j,vto'.ownBlock=some j→w.heap.size≤j) (hf:vtf'.ownBlock=vtf.ownBlock∨∀j,vtf'.ownBlock=some j→w.heap.size≤j):FrM m vto vtf w w'' :=
 ⟨k.os.trans h.os,k.tape.trans h.tape,k.output.trans h.output,Nat.le_trans h.size k.size,fun j hj h1 h2 h3 h4=>(k.block j (Nat.lt_of_lt_of_le hj h.size) h1 h2 (by
  rcases ho with e | e
  ·rw[e];exact h3
  ·intro q;have:=e j q;omega) (by
  rcases hf with e | e
  ·rw[e];exact h4
  ·intro q;have:=e j q;omega)).trans (h.block j hj h1 h2 h3 h4),fun c hc=>(k.head c hc).trans (h.head c hc)⟩
section
variable {B:Nat} {w:World} {m:Mb} {M:MS} {cs:Array Value} {T:TypeId} {vto vtf:Value}
theorem MvAt.tb_ty (h:MvAt B w m M cs T vto vtf):Typ w m.tb T:=⟨_,_,h.tpart.blk⟩
theorem MvAt.wb_ty (h:MvAt B w m M cs T vto vtf) {b:Lv} (hb:b∈m.ls):Typ w b.wb 3:=by
 obtain⟨j,hj⟩:=List.getElem?_of_mem hb
 have hl:=(List.getElem?_eq_some_iff.1 hj).1
 rw[h.fr.len] at hl
 exact⟨_,_,(h.fr.lvs j b _ hj (List.getElem?_eq_getElem hl)).wn⟩
theorem MvAt.keep {w':World} (h:MvAt B w m M cs T vto vtf) (hb:Below w.heap.size w w'):MvAt B w' m M cs T vto vtf:=by
 have kt:∀{k t},Typ w k t→Typ w' k t:=fun q=>q.move (hb.block _ q.lt)
 exact⟨zj hb h.m0 (ze h.m0),zj hb h.m1 (ze h.m1),h.fr.keep hb,⟨(hb.block _ (hlt h.tpart.blk)).trans h.tpart.blk,h.tpart.e0,h.tpart.e1,h.tpart.e2,aa8 h.tpart.objs hb,aa8 h.tpart.flds hb,h.tpart.few,h.tpart.fewo,h.tpart.tO,h.tpart.tV⟩,
  h.sz,Nat.le_trans h.hB hb.size,h.tT,kt h.ymv,kt h.yfb,kt h.ylb,fun b q=>kt (h.yl b q),fun b q=>by obtain⟨t,t1,t2⟩:=h.yp b q;exact⟨t,t1,kt t2⟩,h.hd,h.no,h.nf,h.nw,h.szn⟩
end
theorem al6 {cs:Array Value} {o c:Nat} {a b:Value} (h:c<o+1∨o+2<c):((cs.setIfInBounds (o+1) a).setIfInBounds (o+2) b)[c]?=cs[c]?:=by
 rw[Array.getElem?_setIfInBounds,if_neg (by omega),Array.getElem?_setIfInBounds,if_neg (by omega)]
theorem ags {L:List PL} {q:Nat×Nat} {a:Int} {j:Nat} {p:PL} (h:L[j]?=some p):(aar L q a)[j]?=some (if q.1=j then { p with went:=p.went.set q.2 a } else p):=by
 unfold aar
 rw[List.getElem?_modify,h]
 split <;> rfl
theorem amt (l:List Int) (i:Nat) (a:Int):((l.set i a).map iv).toArray=(l.map iv).toArray.setIfInBounds i (iv a):=by
 rw[List.map_set]
 simp
theorem LvAt.other {B:Nat} {w w':World} {b:Lv} {p:PL} (h:LvAt B w b p) (hl:w'.heap[b.l]?=w.heap[b.l]?) (hw:w'.heap[b.wb]?=w.heap[b.wb]?) (hp:∀c,c≤2→w'.cell? ⟨b.pb,b.po+c,none⟩=w.cell? ⟨b.pb,b.po+c,none⟩)
  (ho:∀j,b.vo.ownBlock=some j→w'.heap[j]?=w.heap[j]?) (hf:∀j,b.vf.ownBlock=some j→w'.heap[j]?=w.heap[j]?):LvAt B w' b p :=
 ⟨(World.cell?_of_block hl).trans h.c0,(World.cell?_of_block hl).trans h.c1,hw.trans h.wn,h.full,(hp 0 (by omega)).trans h.f0,⟨(hp 1 (by omega)).trans h.pt.c1,(hp 2 (by omega)).trans h.pt.c2,zs h.pt.objs ho,zs h.pt.flds hf,h.pt.few⟩,h.lo,h.hi⟩
theorem aks {B:Nat} {w w':World} {m:Mb} {M:MS} {cs:Array Value} {T:TypeId} {vto vtf:Value} (h:MvAt B w m M cs T vto vtf) {q:Nat×Nat} {b:Lv} {p:PL} {x:HO} (hb:m.ls[q.1]?=some b) (hp:M.L[q.1]?=some p)
  {vo' vf':Value} (hP:PtB B w' m.tb m.tp ((cs.setIfInBounds (m.tp+1) vo').setIfInBounds (m.tp+2) vf') T M.ft (M.T++[{ x with noted:=false }]) vo' vf') (hF:FrA m.tb vto vtf w w')
  (e1:vo'.ownBlock=vto.ownBlock∨∀j,vo'.ownBlock=some j→w.heap.size≤j) (e2:vf'.ownBlock=vtf.ownBlock∨∀j,vf'.ownBlock=some j→w.heap.size≤j) (a:Int) :
  MvAt B (w'.setCell ⟨b.wb,q.2,none⟩ (iv a)) m { M with T:=M.T++[{ x with noted:=false }],L:=aar M.L q a } ((cs.setIfInBounds (m.tp+1) vo').setIfInBounds (m.tp+2) vf') T vo' vf'∧FrM m vto vtf w (w'.setCell ⟨b.wb,q.2,none⟩ (iv a)):=by
 have hbm:b∈m.ls:=List.mem_of_getElem? hb
 have hT:=ab5 h.tT
 have tbT:=h.tb_ty
 have k1:∀{k t},Typ w k t→t≠T→t≠61→t≠69→w'.heap[k]?=w.heap[k]?:=fun hk h1 h2 h3 =>
  hF.block _ hk.lt (hk.ne tbT h1) (fun e=>(hk.ne (zu h.tpart.objs e) h2) rfl) (fun e=>(hk.ne (zu h.tpart.flds e) h3) rfl)
 have wbT:=h.wb_ty hbm
 have wbT':Typ w' b.wb 3:=wbT.move (k1 wbT hT.2.2.1.symm (by decide) (by decide))
 have k2:∀{k t},Typ w k t→t≠T→t≠61→t≠69→t≠3→(w'.setCell ⟨b.wb,q.2,none⟩ (iv a)).heap[k]?=w.heap[k]?:=fun hk h1 h2 h3 h4 =>
  (zo _ (hk.ne wbT h4)).trans (k1 hk h1 h2 h3)
 have tb':∀c,(w'.setCell ⟨b.wb,q.2,none⟩ (iv a)).cell? ⟨m.tb,c,none⟩=w'.cell? ⟨m.tb,c,none⟩:=fun c=>World.cell?_of_block (zo _ (tbT.ne wbT hT.2.2.1))
 have head:∀c,(c<m.tp+1∨m.tp+2<c)→(w'.setCell ⟨b.wb,q.2,none⟩ (iv a)).cell? ⟨m.tb,c,none⟩=w.cell? ⟨m.tb,c,none⟩:=fun c hc=>by
  rw[tb',zd hP.blk,zd h.tpart.blk,al6 hc]
 have ymv:=k2 h.ymv hT.2.2.2.1.symm (by decide) (by decide) (by decide)
 have yfb:=k2 h.yfb hT.2.2.2.2.1.symm (by decide) (by decide) (by decide)
 have ylb:=k2 h.ylb hT.2.2.2.2.2.1.symm (by decide) (by decide) (by decide)
 have yl:∀b'∈m.ls,(w'.setCell ⟨b.wb,q.2,none⟩ (iv a)).heap[b'.l]?=w.heap[b'.l]?:=fun b' hb'=>k2 (h.yl b' hb') hT.2.2.2.2.2.2.symm (by decide) (by decide) (by decide)
 have yo:∀b'∈m.ls,∀(p':PL),LvAt B w b' p'→∀j,b'.vo.ownBlock=some j→(w'.setCell ⟨b.wb,q.2,none⟩ (iv a)).heap[j]?=w.heap[j]?:=fun b' hb' p' hl j hj=>by
  have ty:=zu hl.pt.objs hj
  rw[zo _ (ty.ne wbT (by decide))]
  exact hF.block _ ty.lt (ty.ne tbT hT.1.symm) (fun e=>h.no b' hb' j e hj) (fun e=>(ty.ne (zu h.tpart.flds e) (by decide)) rfl)
 have yf:∀b'∈m.ls,∀(p':PL),LvAt B w b' p'→∀j,b'.vf.ownBlock=some j→(w'.setCell ⟨b.wb,q.2,none⟩ (iv a)).heap[j]?=w.heap[j]?:=fun b' hb' p' hl j hj=>by
  have ty:=zu hl.pt.flds hj
  rw[zo _ (ty.ne wbT (by decide))]
  exact hF.block _ ty.lt (ty.ne tbT hT.2.1.symm) (fun e=>(ty.ne (zu h.tpart.objs e) (by decide)) rfl) (fun e=>h.nf b' hb' j e hj)
 have yp:∀b'∈m.ls,∀c,c≤2→(w'.setCell ⟨b.wb,q.2,none⟩ (iv a)).cell? ⟨b'.pb,b'.po+c,none⟩=w.cell? ⟨b'.pb,b'.po+c,none⟩:=fun b' hb' c hc=>by
  by_cases e:b'.pb=m.tb
  ·rw[e]
   exact head _ (by have:=h.hd b' hb' e;omega)
  ·obtain⟨t,t1,t2⟩:=h.yp b' hb'
   have tn:=ab5 t1
   have:(w'.setCell ⟨b.wb,q.2,none⟩ (iv a)).heap[b'.pb]?=w.heap[b'.pb]?:=by
    rw[zo _ (t2.ne wbT tn.2.2.1)]
    exact hF.block _ t2.lt e (fun e=>(t2.ne (zu h.tpart.objs e) tn.1) rfl) (fun e=>(t2.ne (zu h.tpart.flds e) tn.2.1) rfl)
   exact World.cell?_of_block this
 have keepT:∀{k t},Typ w k t→(w'.setCell ⟨b.wb,q.2,none⟩ (iv a)).heap[k]?=w.heap[k]?→Typ (w'.setCell ⟨b.wb,q.2,none⟩ (iv a)) k t:=fun hk e=>hk.move e
 have szz:(w'.setCell ⟨b.wb,q.2,none⟩ (iv a)).heap.size=w'.heap.size:=by simp[World.setCell]
 refine⟨⟨(World.cell?_of_block ymv).trans h.m0,(World.cell?_of_block ymv).trans h.m1,⟨(World.cell?_of_block yfb).trans h.fr.c,fun j b' hj=>(World.cell?_of_block ylb).trans (h.fr.at' j b' hj),?_,h.fr.few,?_⟩,?_,?_,?_,h.tT,keepT h.ymv ymv,keepT h.yfb yfb,keepT h.ylb ylb,fun b' hb'=>keepT (h.yl b' hb') (yl b' hb'),?_,h.hd,?_,?_,h.nw,by simpa using h.szn⟩,⟨?_,?_,?_,?_,?_,head⟩⟩
 ·show m.ls.length=(aar M.L q a).length
  rw[h.fr.len]
  simp[aar]
 ·intro j b' p' hj hp'
  have hp':(aar M.L q a)[j]?=some p':=hp'
  have hb':=List.mem_of_getElem? hj
  have hlj:j<M.L.length:=by have:=(List.getElem?_eq_some_iff.1 hj).1;rw[h.fr.len] at this;exact this
  obtain⟨p0,hp0⟩:∃p0,M.L[j]?=some p0:=⟨_,List.getElem?_eq_getElem hlj⟩
  rw[ags hp0] at hp'
  have hl0:=h.fr.lvs j b' p0 hj hp0
  by_cases e:q.1=j
  ·subst e
   rw[if_pos rfl] at hp'
   cases hp'
   rw[hb] at hj
   cases hj
   rw[hp] at hp0
   cases hp0
   have hw1:w'.heap[b.wb]?=some (.cells (p.went.map iv).toArray 3 (0,0)):=(k1 wbT hT.2.2.1.symm (by decide) (by decide)).trans hl0.wn
   refine⟨(World.cell?_of_block (yl b hbm)).trans hl0.c0,(World.cell?_of_block (yl b hbm)).trans hl0.c1,?_,by simpa using hl0.full,(yp b hbm 0 (by omega)).trans hl0.f0,⟨(yp b hbm 1 (by omega)).trans hl0.pt.c1,(yp b hbm 2 (by omega)).trans hl0.pt.c2,zs hl0.pt.objs (yo b hbm p hl0),zs hl0.pt.flds (yf b hbm p hl0),hl0.pt.few⟩,hl0.lo,hl0.hi⟩
   rw[aad hw1,amt]
  ·rw[if_neg e] at hp'
   cases hp'
   refine hl0.other (yl b' hb') ?_ (yp b' hb') (yo b' hb' _ hl0) (yf b' hb' _ hl0)
   have wT:=h.wb_ty hb'
   rw[zo _ (fun k=>h.nw q.1 j b b' hb hj e k.symm)]
   exact k1 wT hT.2.2.1.symm (by decide) (by decide)
 ·have mv:∀j,Typ w' j 61∨Typ w' j 69→(w'.setCell ⟨b.wb,q.2,none⟩ (iv a)).heap[j]?=w'.heap[j]?:=fun j hj=>by
   rcases hj with hj | hj
   ·exact zo _ (hj.ne wbT' (by decide))
   ·exact zo _ (hj.ne wbT' (by decide))
  have tbT':Typ w' m.tb T:=⟨_,_,hP.blk⟩
  exact⟨(zo _ (tbT'.ne wbT' hT.2.2.1)).trans hP.blk,hP.e0,hP.e1,hP.e2,zs hP.objs (fun j hj=>mv j (Or.inl (zu hP.objs hj))),zs hP.flds (fun j hj=>mv j (Or.inr (zu hP.flds hj))),hP.few,hP.fewo,hP.tO,hP.tV⟩
 ·have:=h.sz
  simpa using this
 ·rw[szz]
  exact Nat.le_trans h.hB hF.size
 ·intro b' hb'
  obtain⟨t,t1,t2⟩:=h.yp b' hb'
  refine⟨t,t1,?_⟩
  by_cases e:b'.pb=m.tb
  ·have et:t=T:=by
    obtain⟨c1,f1,g1⟩:=t2
    obtain⟨c2,f2,g2⟩:=tbT
    rw[e,g2] at g1
    cases g1
    rfl
   subst et
   rw[e]
   exact⟨_,_,(zo _ (tbT.ne wbT hT.2.2.1)).trans hP.blk⟩
  ·have tn:=ab5 t1
   exact t2.move ((zo _ (t2.ne wbT tn.2.2.1)).trans (hF.block _ t2.lt e (fun e=>(t2.ne (zu h.tpart.objs e) tn.1) rfl) (fun e=>(t2.ne (zu h.tpart.flds e) tn.2.1) rfl)))
 ·intro b' hb' j hj hv
  rcases e1 with e | e
  ·exact h.no b' hb' j (e ▸ hj) hv
  ·obtain⟨i,hi⟩:=List.getElem?_of_mem hb'
   have hli:i<M.L.length:=by have:=(List.getElem?_eq_some_iff.1 hi).1;rw[h.fr.len] at this;exact this
   have:=(zu (h.fr.lvs i b' _ hi (List.getElem?_eq_getElem hli)).pt.objs hv).lt
   have:=e j hj
   omega
 ·intro b' hb' j hj hv
  rcases e2 with e | e
  ·exact h.nf b' hb' j (e ▸ hj) hv
  ·obtain⟨i,hi⟩:=List.getElem?_of_mem hb'
   have hli:i<M.L.length:=by have:=(List.getElem?_eq_some_iff.1 hi).1;rw[h.fr.len] at this;exact this
   have:=(zu (h.fr.lvs i b' _ hi (List.getElem?_eq_getElem hli)).pt.flds hv).lt
   have:=e j hj
   omega
 ·exact hF.os
 ·exact hF.tape
 ·exact hF.output
 ·rw[szz];exact hF.size
 ·intro k hk h1 h2 h3 h4
  rw[zo _ (fun e=>h2 b hbm e.symm)]
  exact hF.block k hk h1 h3 h4
theorem MvAt.except {B:Nat} {w w':World} {m:Mb} {M:MS} {cs:Array Value} {T:TypeId} {vto vtf:Value} (h:MvAt B w m M cs T vto vtf) (ks:Nat→Prop) (hsz:w.heap.size≤w'.heap.size) (hb:∀k,k<w.heap.size→¬ks k→w'.heap[k]?=w.heap[k]?) (hty:∀k,ks k→Typ w k 69)
  (hvf:∀j,vtf.ownBlock=some j→¬ks j) (hbf:∀b∈m.ls,∀j,b.vf.ownBlock=some j→¬ks j):MvAt B w' m M cs T vto vtf:=by
 have kt:∀{k t},Typ w k t→t≠69→w'.heap[k]?=w.heap[k]?:=fun hk hne=>hb _ hk.lt (fun q=>(hk.ne (hty _ q) hne) rfl)
 have hT:=ab5 h.tT
 have ymv:=kt h.ymv (by decide)
 have yfb:=kt h.yfb (by decide)
 have ylb:=kt h.ylb (by decide)
 have yl:∀b∈m.ls,w'.heap[b.l]?=w.heap[b.l]?:=fun b q=>kt (h.yl b q) (by decide)
 have yp:∀b∈m.ls,w'.heap[b.pb]?=w.heap[b.pb]?:=fun b q=>by
  obtain⟨t,t1,t2⟩:=h.yp b q
  exact kt t2 (ab5 t1).2.1
 refine⟨(World.cell?_of_block ymv).trans h.m0,(World.cell?_of_block ymv).trans h.m1,⟨(World.cell?_of_block yfb).trans h.fr.c,fun j b hj=>(World.cell?_of_block ylb).trans (h.fr.at' j b hj),h.fr.len,h.fr.few,fun j b p hj hp=>?_⟩,?_,h.sz,Nat.le_trans h.hB hsz,h.tT,h.ymv.move ymv,h.yfb.move yfb,h.ylb.move ylb,fun b q=>(h.yl b q).move (yl b q),fun b q=>?_,h.hd,h.no,h.nf,h.nw,h.szn⟩
 ·have hbm:=List.mem_of_getElem? hj
  have hl:=h.fr.lvs j b p hj hp
  exact hl.other (yl b hbm) (kt (h.wb_ty hbm) (by decide)) (fun c _=>World.cell?_of_block (yp b hbm)) (fun k hk=>kt (zu hl.pt.objs hk) (by decide)) (fun k hk=>hb k (zu hl.pt.flds hk).lt (hbf b hbm k hk))
 ·exact⟨(kt h.tb_ty hT.2.1).trans h.tpart.blk,h.tpart.e0,h.tpart.e1,h.tpart.e2,zs h.tpart.objs (fun k hk=>kt (zu h.tpart.objs hk) (by decide)),zs h.tpart.flds (fun k hk=>hb k (zu h.tpart.flds hk).lt (hvf k hk)),h.tpart.few,h.tpart.fewo,h.tpart.tO,h.tpart.tV⟩
 ·obtain⟨t,t1,t2⟩:=h.yp b q
  exact⟨t,t1,t2.move (yp b q)⟩
theorem FrM.later {m:Mb} {vto vtf:Value} {w w' w'':World} (h:FrM m vto vtf w w') (hsz:w'.heap.size≤w''.heap.size) (ho:w''.os=w'.os) (ht:w''.tape=w'.tape) (hp:w''.output=w'.output) (htb:m.tb<w.heap.size) (hb:∀k,k<w.heap.size→w''.heap[k]?=w'.heap[k]?):FrM m vto vtf w w'' :=
 ⟨ho.trans h.os,ht.trans h.tape,hp.trans h.output,Nat.le_trans h.size hsz,fun k hk h1 h2 h3 h4=>(hb k hk).trans (h.block k hk h1 h2 h3 h4),fun c hc=>(World.cell?_of_block (hb m.tb htb)).trans (h.head c hc)⟩
theorem aju {B:Nat} {w w':World} {m:Mb} {M:MS} {cs:Array Value} {T:TypeId} {vto vtf vo' vf':Value} {l':List HO} (h:MvAt B w m M cs T vto vtf) (hP:PtB B w' m.tb m.tp ((cs.setIfInBounds (m.tp+1) vo').setIfInBounds (m.tp+2) vf') T M.ft l' vo' vf') (hF:FrA m.tb vto vtf w w') {b:Lv} {p:PL} (hb:b∈m.ls) (hl:LvAt B w b p) :
  w'.heap[m.mv]?=w.heap[m.mv]?∧w'.heap[b.l]?=w.heap[b.l]?∧w'.heap[b.wb]?=w.heap[b.wb]?∧(∀c,c≤2→w'.cell? ⟨b.pb,b.po+c,none⟩=w.cell? ⟨b.pb,b.po+c,none⟩)∧(∀j,b.vo.ownBlock=some j→w'.heap[j]?=w.heap[j]?):=by
 have hT:=ab5 h.tT
 have tbT:=h.tb_ty
 have k1:∀{k t},Typ w k t→t≠T→t≠61→t≠69→w'.heap[k]?=w.heap[k]?:=fun hk h1 h2 h3 =>
  hF.block _ hk.lt (hk.ne tbT h1) (fun e=>(hk.ne (zu h.tpart.objs e) h2) rfl) (fun e=>(hk.ne (zu h.tpart.flds e) h3) rfl)
 refine⟨k1 h.ymv hT.2.2.2.1.symm (by decide) (by decide),k1 (h.yl b hb) hT.2.2.2.2.2.2.symm (by decide) (by decide),k1 (h.wb_ty hb) hT.2.2.1.symm (by decide) (by decide),fun c hc=>?_,fun j hj=>?_⟩
 ·by_cases e:b.pb=m.tb
  ·rw[e,zd hP.blk,zd h.tpart.blk,al6 (by have:=h.hd b hb e;omega)]
  ·obtain⟨t,t1,t2⟩:=h.yp b hb
   have tn:=ab5 t1
   exact World.cell?_of_block (hF.block _ t2.lt e (fun e=>(t2.ne (zu h.tpart.objs e) tn.1) rfl) (fun e=>(t2.ne (zu h.tpart.flds e) tn.2.1) rfl))
 ·have ty:=zu hl.pt.objs hj
  exact hF.block _ ty.lt (ty.ne tbT hT.1.symm) (fun e=>h.no b hb j e hj) (fun e=>(ty.ne (zu h.tpart.flds e) (by decide)) rfl)
def abt (n o:Int):Bool:=decide (n<1)||decide (65536<n)||decide (o<1)||decide (1048576<o)
def apk (n o:Int) (w:World) (e:Ending) (w':World):Prop:=Below w.heap.size w w' ∧
 ((abt n o=true∧e=.returned (.tuple #[.pointer none,.iface 29 (.int .i64 2)])) ∨
 (abt n o=false∧∃h mb,e=.returned (.tuple #[.pointer (some ⟨h,0,none⟩),.nilIface])∧w.heap.size≤h∧w.heap.size≤mb∧h≠mb∧w'.heap[mb]?=some (.map #[] 0) ∧
   w'.heap[h]?=some (.cells #[.int .i64 1,.slice none 0 0,.slice none 0 0,.int .i64 2,.slice none 0 0,.slice none 0 0,.int .i64 n,.int .i64 o,.slice none 0 0,.map (some mb),.int .i64 0,.int .i64 0,.int .i64 0] 51 (0,0))))
theorem afk (w:World) (o:Obj) {n:Nat} (hn:w.heap.size=n):(w.alloc o).heap[n]?=some o:=by
 rw[←hn];exact aan w o
theorem ah5 (n o:Int) (w:World):Calls prog 4 #[.int .i64 n,.int .i64 o] w fun e w'=>apk n o w e w':=by
 have mm:(Go.Instr.makeMap 48 none).run prog w=.ok (.map (some w.heap.size)) (w.alloc (.map #[] 0)):=rfl
 by_cases h1:n<1
 ·have HB:Hid (abt n o=true):=by simp[abt,h1,Hid]
  go_enter func4,ntmps4
  go_wp2_with fail
  go_ret2
  exact⟨Below.refl _ _,Or.inl ⟨za HB,rfl⟩⟩
 by_cases h2:65536<n
 ·have HB:Hid (abt n o=true):=by simp[abt,h2,Hid]
  go_enter func4,ntmps4
  go_wp2_with fail
  go_ret2
  exact⟨Below.refl _ _,Or.inl ⟨za HB,rfl⟩⟩
 by_cases h3:o<1
 ·have HB:Hid (abt n o=true):=by simp[abt,h3,Hid]
  go_enter func4,ntmps4
  go_wp2_with fail
  go_ret2
  exact⟨Below.refl _ _,Or.inl ⟨za HB,rfl⟩⟩
 by_cases h4:1048576<o
 ·have HB:Hid (abt n o=true):=by simp[abt,h4,Hid]
  go_enter func4,ntmps4
  go_wp2_with fail
  go_ret2
  exact⟨Below.refl _ _,Or.inl ⟨za HB,rfl⟩⟩
 ·have HB:Hid (abt n o=false):=by
   show abt n o=false
   unfold abt
   simp only[decide_eq_false h1,decide_eq_false h2,decide_eq_false h3,decide_eq_false h4,Bool.or_false]
  go_enter func4,ntmps4
  go_wp2_with fail
  go_ret2
  exact⟨((Below.refl _ _).alloc (Nat.le_refl _) _).alloc (by simp) _,Or.inr ⟨za HB,_,w.heap.size,rfl,by simp,Nat.le_refl _,by simp,(Below.heap_alloc _ _ _ (by simp)).trans (aan _ _),afk _ _ (by simp)⟩⟩
end Go.Proofs.YtpnghfghdbijlaaGreatDoor
