/- A part. -/
import Derived.Test.YtpnghfghdbijlaaGreatDoorM03
open Go.Proofs.Tryz
namespace Go.Proofs.YtpnghfghdbijlaaGreatDoor
open Go.RowKit
set_option linter.unusedVariables false
set_option linter.unusedSimpArgs false
set_option maxRecDepth 100000
set_option maxHeartbeats 40000000
structure PtB (B:Nat) (w:World) (b o:Nat) (cs:Array Value) (T:TypeId) (f:Int) (l:List HO) (vo vf:Value):Prop where
 blk:w.heap[b]?=some (.cells cs T (0,0))
 e0:cs[o]?=some (.int .i64 f)
 e1:cs[o+1]?=some vo
 e2:cs[o+2]?=some vf
 objs:w.ownsRow B 61 6 vo l.length (aa7 0 l)
 flds:w.ownsRow B 69 3 vf (zg l).length (acg l)
 few:(zg l).length≤10000000
 fewo:l.length≤10000000
 tO:T≠61
 tV:T≠69
theorem zp {w:World} {B:Nat} {e:TypeId} {k:Nat} {v:Value} {n:Nat} {xs:List Value} (h:w.ownsRow B e k v n xs):∀j,v.ownBlock=some j→B≤j∧j<w.heap.size∧∃cs,w.heap[j]?=some (.cells cs e (0,0)):=by
 intro j hj
 rcases h.2 with ⟨rfl,_⟩ | ⟨g,cap,cur,rfl,h2,h3,_⟩
 ·simp[Value.ownBlock] at hj
 ·simp only[Value.ownBlock,Option.some.injEq] at hj
  subst hj
  exact⟨h2,hlt h3,_,h3⟩
theorem zs {w w':World} {B:Nat} {e:TypeId} {k:Nat} {v:Value} {n:Nat} {xs:List Value} (h:w.ownsRow B e k v n xs) (hb:∀j,v.ownBlock=some j→w'.heap[j]?=w.heap[j]?):w'.ownsRow B e k v n xs:=by
 refine⟨h.1,?_⟩
 rcases h.2 with q | ⟨g,cap,cur,rfl,h2,h3,h4⟩
 ·exact Or.inl q
 ·exact Or.inr ⟨g,cap,cur,rfl,h2,(hb g rfl).trans h3,h4⟩
theorem aey (b:Int) (x0 x1 x2 x4:Int) (x5:Bool):∀u∈[Value.int .i64 x0,.int .i64 x1,.int .i64 x2,.int .i64 b,.int .i64 x4,.bool x5],u.oneCell'=true:=fun u hu=>by
 simp at hu
 rcases hu with rfl | rfl | rfl | rfl | rfl | rfl <;> rfl
theorem afv (l:List HO) (x:HO):aa7 0 (l++[x])=aa7 0 l++aaz (zg l).length x:=by
 rw[af8]
 simp[aa7]
theorem afw (l:List HO) (x:HO):acg (l++[x])=acg l++x.fs.flatMap aaw:=by
 simp[acg,zg]
theorem ad5 (l:List HO) (x:HO):(zg (l++[x])).length=(zg l).length+x.fs.length:=by
 simp[zg]
theorem aie:∀l:List HV,∀u∈l.flatMap aaw,u.oneCell'=true:=fun l u hu=>by
 obtain⟨v,_,hv⟩:=List.mem_flatMap.1 hu
 simp[aaw] at hv
 rcases hv with rfl | rfl | rfl <;> rfl
structure FrA (b:Nat) (vo vf:Value) (w w':World):Prop where
 os:w'.os=w.os
 tape:w'.tape=w.tape
 output:w'.output=w.output
 size:w.heap.size≤w'.heap.size
 block:∀k,k<w.heap.size→k≠b→vo.ownBlock≠some k→vf.ownBlock≠some k→w'.heap[k]?=w.heap[k]?
def AddG (B:Nat) (w:World) (b o:Nat) (cs:Array Value) (T:TypeId) (f:Int) (l:List HO) (x:HO) (vo vf:Value) (e:Ending) (w':World):Prop :=
 e=.returned (.int .i64 (f+2*l.length))∧∃vo' vf',PtB B w' b o ((cs.setIfInBounds (o+1) vo').setIfInBounds (o+2) vf') T f (l++[x]) vo' vf'∧FrA b vo vf w w' ∧
  (vo'.ownBlock=vo.ownBlock∨∀j,vo'.ownBlock=some j→w.heap.size≤j)∧(vf'.ownBlock=vf.ownBlock∨∀j,vf'.ownBlock=some j→w.heap.size≤j)
theorem al5 {B:Nat} {w:World} {b o:Nat} {cs:Array Value} {T:TypeId} {f:Int} {l:List HO} {vo vf:Value} (h:PtB B w b o cs T f l vo vf) (hB:B≤w.heap.size) (x:HO) (hxp:0<x.fs.length) (hxn:x.noted=false) (bg:Int) (nt:Bool) {ad:Addr} {c:Nat} (had:∀j u,(x.fs.flatMap aaw)[j]?=some u→w.cell? (ad.add j)=some u) (hsrc:∃cs' fr,w.heap[ad.block]?=some (.cells cs' 69 fr)) (hf0:0≤f) (hf1:f+2*l.length+2≤4611686018427387904) (hfew:(zg l).length+x.fs.length≤10000000) (hfo:l.length+1≤10000000) (ho:o+2<cs.size) :
  Calls prog 16 #[.pointer (some ⟨b,o,none⟩),.agg #[.int .i64 x.kind,.int .i64 x.tag,.int .i64 x.id,.int .i64 bg,.int .i64 x.fs.length,.bool nt],.slice (some ad) x.fs.length c] w fun e w'=>AddG B w b o cs T f l x vo vf e w':=by
 have KP:=zc h
 obtain⟨gf,cf,hvf⟩:=aaa h.flds
 have c2:w.cell? ⟨b,o+2,none⟩=some vf:=(zd h.blk (o+2)).trans h.e2
 have hbl:=hlt h.blk
 subst hvf
 have HAD:=zc had
 have HSRC:=zc hsrc
 have HXN:=zc hxn
 obtain⟨i0,hi,hz0,hz1,hz2⟩:=info_parts aht
 obtain⟨i1,hi1,hy0,hy1,hy2⟩:=info_parts agd
 clear h had hsrc hxn
 go_enter func16,ntmps16
 go_wp2_with fail
 have HW0:=zc (aan w (.cells #[.int .i64 x.kind,.int .i64 x.tag,.int .i64 x.id,.int .i64 (zg l).length,.int .i64 x.fs.length,.bool false] 61))
 have hba:Below w.heap.size w (w.alloc (.cells #[.int .i64 x.kind,.int .i64 x.tag,.int .i64 x.id,.int .i64 (zg l).length,.int .i64 x.fs.length,.bool false] 61)):=(Below.refl _ _).alloc (Nat.le_refl _) _
 have HBA:=zc hba
 have hs1:(w.alloc (.cells #[.int .i64 x.kind,.int .i64 x.tag,.int .i64 x.id,.int .i64 (zg l).length,.int .i64 x.fs.length,.bool false] 61)).heap.size=w.heap.size+1:=by simp
 generalize w.alloc (.cells #[.int .i64 x.kind,.int .i64 x.tag,.int .i64 x.id,.int .i64 (zg l).length,.int .i64 x.fs.length,.bool false] 61)=W at *
 clear c2 hba
 have HS1:=zc hs1
 have HBLK:=zc (((za HBA).block b (hlt (za KP).blk)).trans (za KP).blk)
 have c1:W.cell? ⟨b,o+1,none⟩=some vo:=(zd (za HBLK) (o+1)).trans (za KP).e1
 have d1:=aac c1
 have HO:=zc (aa8 (aa8 (za KP).objs (za HBA)) ((Below.refl _ _).alloc (Nat.le_refl _) (.cells #[.int .i64 x.kind,.int .i64 x.tag,.int .i64 x.id,.int .i64 (zg l).length,.int .i64 x.fs.length,.bool false] 61)))
 have HVT:=zc (zp (za KP).objs)
 have HFT:=zc (zp (za KP).flds)
 clear hs1
 refine wp_region_held_drew (S:=(fun w'=>w'.cell? ⟨w.heap.size,0,none⟩=some (.int .i64 x.kind)∧w'.cell? ⟨w.heap.size,1,none⟩=some (.int .i64 x.tag)∧w'.cell? ⟨w.heap.size,2,none⟩=some (.int .i64 x.id)∧w'.cell? ⟨w.heap.size,3,none⟩=some (.int .i64 (zg l).length)∧w'.cell? ⟨w.heap.size,4,none⟩=some (.int .i64 x.fs.length)∧w'.cell? ⟨w.heap.size,5,none⟩=some (.bool false))) (by kernel_rfl) ⟨zd (za HW0) 0,zd (za HW0) 1,zd (za HW0) 2,zd (za HW0) 3,zd (za HW0) 4,zd (za HW0) 5⟩ (fun hHeld=>?_)
 refine wpAnyH_take (i:=0) (oi:={ dst:=some 14,op:=_,type:=_,pos:=_,after:=_,guard:=_ }) (v:=?_) rfl (by kernel_rfl) (by kernel_rfl) (by kernel_rfl) (fun _ _ _ h=>h) (Or.inl ⟨by rfl,?_⟩) (by assumption) ?_
 case refine_2 =>
  intro w hSw
  try dsimp only at hSw
  go_simp
  try with_reducible rfl
 simp only[Act.put,sA,sB,sC]
 refine wpAnyH_take (i:=1) (oi:={ dst:=some 15,op:=_,type:=_,pos:=_,after:=_,guard:=_ }) (v:=?_) rfl (by kernel_rfl) (by kernel_rfl) (by kernel_rfl) (fun _ _ _ h=>h) (Or.inl ⟨by rfl,?_⟩) (by assumption) ?_
 case refine_2 =>
  intro w hSw
  try dsimp only at hSw
  go_simp
  try with_reducible rfl
 simp only[Act.put,sA,sB,sC]
 refine wpAnyH_take (i:=2) (oi:={ dst:=some 16,op:=_,type:=_,pos:=_,after:=_,guard:=_ }) (v:=?_) rfl (by kernel_rfl) (by kernel_rfl) (by kernel_rfl) (fun _ _ _ h=>h) (Or.inl ⟨by rfl,?_⟩) (by assumption) ?_
 case refine_2 =>
  intro w hSw
  try dsimp only at hSw
  go_simp
  try with_reducible rfl
 simp only[Act.put,sA,sB,sC]
 refine wpAnyH_take (i:=3) (oi:={ dst:=some 17,op:=_,type:=_,pos:=_,after:=_,guard:=_ }) (v:=?_) rfl (by kernel_rfl) (by kernel_rfl) (by kernel_rfl) (fun _ _ _ h=>h) (Or.inl ⟨by rfl,?_⟩) (by assumption) ?_
 case refine_2 =>
  intro w hSw
  try dsimp only at hSw
  go_simp
  try with_reducible rfl
 simp only[Act.put,sA,sB,sC]
 refine wpAnyH_take (i:=5) (oi:={ dst:=some 19,op:=_,type:=_,pos:=_,after:=_,guard:=_ }) (v:=?_) rfl (by kernel_rfl) (by kernel_rfl) (by kernel_rfl) (fun _ _ _ h=>h) (Or.inl ⟨by rfl,?_⟩) (by assumption) ?_
 case refine_2 =>
  intro w hSw
  try dsimp only at hSw
  go_simp
  try with_reducible rfl
 simp only[Act.put,sA,sB,sC]
 refine wpAnyH_ready (rs:=[4,6]) (by kernel_rfl) (by simp) ?_
 refine AllReadyH.cons (o:={ dst:=some 18,op:=_,type:=_,pos:=_,after:=_,guard:=_ }) rfl (fun K hK=>?_) ?_
 ·go_simp
  refine hK.out _ _ (by assumption) (fun hHeld4=>?_)
  clear hK K
  refine wpAnyH_ready (rs:=[6]) (by kernel_rfl) (by simp) ?_
  refine AllReadyH.cons (o:={ dst:=some 20,op:=_,type:=_,pos:=_,after:=_,guard:=_ }) rfl (fun K hK=>?_) AllReadyH.nil
  go_simp
  refine hK.out _ _ ⟨aac (zd (za HW0) 0) _,aac (zd (za HW0) 1) _,aac (zd (za HW0) 2) _,aac (zd (za HW0) 3) _,aac (zd (za HW0) 4) _,aac (zd (za HW0) 5) _⟩ (fun hHeld6=>?_)
  clear hK K
  refine wpAnyH_ready (rs:=[7]) (by kernel_rfl) (by simp) ?_
  refine AllReadyH.cons (o:={ dst:=some 21,op:=_,type:=_,pos:=_,after:=_,guard:=_ }) rfl (fun K hK=>?_) AllReadyH.nil
  refine step_append_lies _ (by rfl) _ _ _ (by rfl) B 61 i0 (.agg #[.int .i64 0,.int .i64 0,.int .i64 0,.int .i64 0,.int .i64 0,.bool false]) 6 48 underlying45 hi hz0 hz1 hz2 rfl (by decide) vo l.length (aa7 0 l) (by rfl) (za HO) ⟨W.heap.size,0,none⟩ 1 1 [.int .i64 x.kind,.int .i64 x.tag,.int .i64 x.id,.int .i64 (zg l).length,.int .i64 x.fs.length,.bool false] (by rfl) rfl (afg (by simp) _ _) (aey _ _ _ _ _ _) (by decide) (by unfold maxLen;omega) (by omega) (by have:=za HS1;simp;omega) (W.heap.size+1) (by simp) ?_
  intro g cap w3 hown hgrow hat hlt3
  have hold:∀j,j<W.heap.size→vo.ownBlock≠some j→w3.heap[j]?=W.heap[j]?:=fun j hj hv=>(hgrow.block j (by simp;omega) (fun q=>hv q.symm)).trans (Below.heap_alloc _ _ _ hj)
  have hnv:vo.ownBlock≠some w.heap.size:=fun q=>by have:=(za HVT _ q).2.1;omega
  have hbv:vo.ownBlock≠some b:=fun q=>by
   obtain⟨_,_,cs',q3⟩:=za HVT _ q
   rw[(za KP).blk] at q3
   cases q3
   exact(za KP).tO rfl
  have hnb:=(hold w.heap.size (by have:=za HS1;omega) hnv).trans (za HW0)
  have hhb:=(hold b (hlt (za HBLK)) hbv).trans (za HBLK)
  have z1:w3.cell? ⟨b,o+1,none⟩=some vo:=(zd hhb (o+1)).trans (za KP).e1
  have y1:=zt hhb (o+1)
  have HHB:=zc hhb
  have HOWN:=zc hown
  have HOLD:=zc hold
  have HGR:=zc (show w3.os=w.os∧w3.tape=w.tape∧w3.output=w.output∧w.heap.size≤w3.heap.size from ⟨hgrow.os.trans (za HBA).os,hgrow.tape.trans (za HBA).tape,hgrow.output.trans (za HBA).output,by have:=hgrow.size;have:=za HS1;simp at *;omega⟩)
  have HAT:=zc hat
  have hbn:b≠w.heap.size:=by omega
  have s4:∀u,(w3.setCell ⟨b,o+1,none⟩ u).heap[w.heap.size]?=_:=fun u=>(zo u (Ne.symm hbn)).trans hnb
  clear hown hgrow hat hlt3 hold hhb hnv hbv
  refine hK.out _ _ ⟨zd hnb 0,zd hnb 1,zd hnb 2,zd hnb 3,zd hnb 4,zd hnb 5⟩ (fun hHeldA=>?_)
  clear hK K
  simp only[Act.put,sA,sB,sC]
  refine wpAnyH_take (i:=8) (oi:={ dst:=some 22,op:=_,type:=_,pos:=_,after:=_,guard:=_ }) (v:=?_) rfl (by kernel_rfl) (by kernel_rfl) (by kernel_rfl) (fun _ _ _ h=>h) (Or.inl ⟨by rfl,?_⟩) (by assumption) ?_
  case refine_2 =>
   intro w hSw
   try dsimp only at hSw
   go_simp
   try with_reducible rfl
  simp only[Act.put,sA,sB,sC]
  refine wpAnyH_take (i:=9) (oi:={ dst:=some 23,op:=_,type:=_,pos:=_,after:=_,guard:=_ }) (v:=?_) rfl (by kernel_rfl) (by kernel_rfl) (by kernel_rfl) (fun _ _ _ h=>h) (Or.inl ⟨by rfl,?_⟩) (by assumption) ?_
  case refine_2 =>
   intro w hSw
   try dsimp only at hSw
   go_simp
   try with_reducible rfl
  simp only[Act.put,sA,sB,sC]
  refine wpAnyH_ready (rs:=[10]) (by kernel_rfl) (by simp) ?_
  refine AllReadyH.cons (o:={ dst:=none,op:=_,type:=_,pos:=_,after:=_,guard:=_ }) rfl (fun K hK=>?_) AllReadyH.nil
  go_simp
  refine hK.out _ _ ⟨zd (s4 _) 0,zd (s4 _) 1,zd (s4 _) 2,zd (s4 _) 3,zd (s4 _) 4,zd (s4 _) 5⟩ (fun hHeldS=>?_)
  clear hK K
  refine wpAnyH_done (by kernel_rfl) ?_ _
  clear z1 y1 s4 hHeldS
  obtain⟨v4,hv4⟩:∃v4,(Value.slice (some ⟨g,0,none⟩) (l.length+1) cap)=v4:=⟨_,rfl⟩
  have hblk4:=aad (za HHB) (o+1) v4
  have hfr4:∀j,j<w.heap.size→j≠b→vo.ownBlock≠some j→(w3.setCell ⟨b,o+1,none⟩ v4).heap[j]?=w.heap[j]?:=fun j hj hjb hjv=>(zo v4 hjb).trans ((za HOLD j (by have:=za HS1;omega) hjv).trans ((za HBA).block j hj))
  have hvfb:∀j,(Value.slice gf (zg l).length cf).ownBlock=some j→j≠b∧vo.ownBlock≠some j:=fun j hj=>by
   obtain⟨_,_,cs',q3⟩:=za HFT j hj
   refine⟨fun q=>?_,fun q=>?_⟩
   ·subst q
    rw[(za KP).blk] at q3
    cases q3
    exact(za KP).tV rfl
   ·obtain⟨_,_,cs'',q4⟩:=za HVT j q
    rw[q3] at q4
    cases q4
  have HFL4:=zc (zs (w':=w3.setCell ⟨b,o+1,none⟩ v4) (za KP).flds fun j hj=>hfr4 j (za HFT j hj).2.1 (hvfb j hj).1 (hvfb j hj).2)
  have HOB4:Hid ((w3.setCell ⟨b,o+1,none⟩ v4).ownsRow B 61 6 v4 (l.length+1) (aa7 0 l++[.int .i64 x.kind,.int .i64 x.tag,.int .i64 x.id,.int .i64 (zg l).length,.int .i64 x.fs.length,.bool false])):=by
   rw[←hv4]
   refine zs (za HOWN) fun j hj=>zo _ fun q=>?_
   subst q
   obtain⟨_,_,cs',q3⟩:=zp (za HOWN) j hj
   rw[za HHB] at q3
   cases q3
   exact(za KP).tO rfl
  have hsz4:w.heap.size≤(w3.setCell ⟨b,o+1,none⟩ v4).heap.size:=by have:=(za HGR).2.2.2;simpa [World.setCell] using this
  have HNW:Hid (∀j u,(x.fs.flatMap aaw)[j]?=some u→(w3.setCell ⟨b,o+1,none⟩ v4).cell? (ad.add j)=some u):=fun j u hu=>by
   obtain⟨cs',fr',hsr⟩:=za HSRC
   have h1:(w3.setCell ⟨b,o+1,none⟩ v4).heap[ad.block]?=w.heap[ad.block]?:=hfr4 ad.block (hlt hsr) (fun q=>by
    rw[q,(za KP).blk] at hsr
    cases hsr
    exact(za KP).tV rfl) (fun q=>by
    obtain⟨_,_,cs'',q4⟩:=za HVT _ q
    rw[hsr] at q4
    cases q4)
   have e:(ad.add j).block=ad.block:=by unfold Addr.add;split <;> rfl
   exact(World.cell?_of_block (by rw[e];exact h1)).trans (za HAD j u hu)
  have c42:(w3.setCell ⟨b,o+1,none⟩ v4).cell? ⟨b,o+2,none⟩=some (.slice gf (zg l).length cf):=by
   rw[zd hblk4 (o+2),Array.getElem?_setIfInBounds_ne (by omega)]
   exact(za KP).e2
  have HG4:=zc (show (w3.setCell ⟨b,o+1,none⟩ v4).os=w.os∧(w3.setCell ⟨b,o+1,none⟩ v4).tape=w.tape∧(w3.setCell ⟨b,o+1,none⟩ v4).output=w.output from ⟨(za HGR).1,(za HGR).2.1,(za HGR).2.2.1⟩)
  rw[hv4]
  have HV4:=zc hv4
  have HBLK4:=zc hblk4
  have HFR4:=zc hfr4
  have HVFB:=zc hvfb
  generalize w3.setCell ⟨b,o+1,none⟩ v4=w4 at *
  clear hblk4 hfr4 hvfb hv4
  go_wp2_with (at_builtin;refine wpList_append_lies _ rfl _ _ _ rfl B 69 i1 (.agg #[.int .i64 0,.int .i64 0,.string ByteArray.empty]) 3 32 underlying32 hi1 hy0 hy1 hy2 rfl (by decide) _ (zg l).length (acg l) rfl (za HFL4) ad x.fs.length c (x.fs.flatMap aaw) rfl (adf _) (za HNW) (aie _) hxp ?c3 ?c4 ?c5 w4.heap.size rfl ?_)
  case c3=>unfold maxLen;omega
  case c4=>omega
  case c5=>omega
  intro g5 cap5 w5 hown2 hgrow2 hat5 hlt5
  obtain⟨v5,hv5⟩:∃v5,(Value.slice (some ⟨g5,0,none⟩) ((zg l).length+x.fs.length) cap5)=v5:=⟨_,rfl⟩
  have hold5:∀j,j<w4.heap.size→(Value.slice gf (zg l).length cf).ownBlock≠some j→w5.heap[j]?=w4.heap[j]?:=fun j hj hv=>hgrow2.block j hj (fun q=>hv q.symm)
  have hbf:(Value.slice gf (zg l).length cf).ownBlock≠some b:=fun q=>(za HVFB b q).1 rfl
  have hblk5:=(hold5 b (hlt (za HBLK4)) hbf).trans (za HBLK4)
  have e1:w5.cell? ⟨b,o+1,none⟩=some (.slice (some ⟨g,0,none⟩) (l.length+1) cap):=by
   rw[zd hblk5 (o+1),za HV4]
   simp[show o+1<cs.size by omega]
  have z2:w5.cell? ⟨b,o+2,none⟩=some (.slice gf (zg l).length cf):=by
   rw[zd hblk5 (o+2),Array.getElem?_setIfInBounds_ne (by omega)]
   exact(za KP).e2
  have y2:=zt hblk5 (o+2)
  have hblk6:=aad hblk5 (o+2) v5
  have e6:(w5.setCell ⟨b,o+2,none⟩ v5).cell? ⟨b,o,none⟩=some (.int .i64 f):=by
   rw[zd hblk6 o,Array.getElem?_setIfInBounds_ne (by omega),Array.getElem?_setIfInBounds_ne (by omega)]
   exact(za KP).e0
  have HPT:Hid (PtB B (w5.setCell ⟨b,o+2,none⟩ v5) b o ((cs.setIfInBounds (o+1) v4).setIfInBounds (o+2) v5) T f (l++[x]) v4 v5):=by
   refine⟨hblk6,?_,?_,?_,?_,?_,?_,?_,(za KP).tO,(za KP).tV⟩
   ·rw[Array.getElem?_setIfInBounds_ne (by omega),Array.getElem?_setIfInBounds_ne (by omega)]
    exact(za KP).e0
   ·rw[Array.getElem?_setIfInBounds_ne (by omega)]
    simp[show o+1<cs.size by omega]
   ·simp[show o+2<cs.size by omega]
   ·have hk:=zs (w':=w5.setCell ⟨b,o+2,none⟩ v5) (za HOB4) fun j hj=>by
     obtain⟨_,hj2,cs',q3⟩:=zp (za HOB4) j hj
     rw[zo v5 (fun q=>by
      subst q
      rw[za HBLK4] at q3
      cases q3
      exact(za KP).tO rfl)]
     exact hold5 j hj2 fun q=>by
      obtain⟨_,_,cs'',q4⟩:=zp (za HFL4) j q
      rw[q3] at q4
      cases q4
    rw[List.length_append,afv,show aaz (zg l).length x=[.int .i64 x.kind,.int .i64 x.tag,.int .i64 x.id,.int .i64 (zg l).length,.int .i64 x.fs.length,.bool false] by simp[aaz,za HXN]]
    exact hk
   ·rw[ad5,afw,←hv5]
    refine zs hown2 fun j hj=>zo _ fun q=>?_
    subst q
    obtain⟨_,_,cs',q3⟩:=zp hown2 j hj
    rw[hblk5] at q3
    cases q3
    exact(za KP).tV rfl
   ·rw[ad5];omega
   ·simp;omega
  have HFRA:Hid (FrA b vo (.slice gf (zg l).length cf) w (w5.setCell ⟨b,o+2,none⟩ v5)):=⟨hgrow2.os.trans (za HG4).1,hgrow2.tape.trans (za HG4).2.1,hgrow2.output.trans (za HG4).2.2,by have:=hgrow2.size;simp[World.setCell];omega,fun k hk h1 h2 h3=>(zo v5 h1).trans ((hold5 k (by omega) h3).trans (za HFR4 k hk h1 h2))⟩
  have HW1:Hid (v4.ownBlock=vo.ownBlock∨∀j,v4.ownBlock=some j→w.heap.size≤j):=by
   rw[←za HV4]
   rcases za HAT with q | q
   ·exact Or.inl q.symm
   ·refine Or.inr fun j hj=>?_
    simp only[Value.ownBlock,Option.some.injEq] at hj
    have:=za HS1
    omega
  have HW2:Hid (v5.ownBlock=(Value.slice gf (zg l).length cf).ownBlock∨∀j,v5.ownBlock=some j→w.heap.size≤j):=by
   rw[←hv5]
   rcases hat5 with q | q
   ·exact Or.inl q.symm
   ·refine Or.inr fun j hj=>?_
    simp only[Value.ownBlock,Option.some.injEq] at hj
    omega
  have wl:IntKind.i64.wrap (l.length:Int)=(l.length:Int):=aav (by omega) (by omega)
  have HE6:=zc e6
  have HV5:=zc hv5
  clear hown2 hgrow2 hat5 hlt5 hold5 hbf hblk5 hblk6 e6 hv5
  go_wp2_with fail
  rw[za HV5]
  refine(adv (za HE6) (i:=l.length) hf0 (by omega)).mono ?_
  rintro e w7 ⟨rfl,rfl⟩
  go_wp2_with fail
  go_ret
  exact⟨rfl,v4,v5,za HPT,za HFRA,za HW1,za HW2⟩
 refine AllReadyH.cons (o:={ dst:=some 20,op:=_,type:=_,pos:=_,after:=_,guard:=_ }) rfl (fun K hK=>?_) AllReadyH.nil
 go_simp
 refine hK.out _ _ ⟨aac (zd (za HW0) 0) _,aac (zd (za HW0) 1) _,aac (zd (za HW0) 2) _,aac (zd (za HW0) 3) _,aac (zd (za HW0) 4) _,aac (zd (za HW0) 5) _⟩ (fun hHeld6=>?_)
 clear hK K
 refine wpAnyH_ready (rs:=[4]) (by kernel_rfl) (by simp) ?_
 refine AllReadyH.cons (o:={ dst:=some 18,op:=_,type:=_,pos:=_,after:=_,guard:=_ }) rfl (fun K hK=>?_) AllReadyH.nil
 go_simp
 refine hK.out _ _ (by assumption) (fun hHeld4=>?_)
 clear hK K
 refine wpAnyH_ready (rs:=[7]) (by kernel_rfl) (by simp) ?_
 refine AllReadyH.cons (o:={ dst:=some 21,op:=_,type:=_,pos:=_,after:=_,guard:=_ }) rfl (fun K hK=>?_) AllReadyH.nil
 refine step_append_lies _ (by rfl) _ _ _ (by rfl) B 61 i0 (.agg #[.int .i64 0,.int .i64 0,.int .i64 0,.int .i64 0,.int .i64 0,.bool false]) 6 48 underlying45 hi hz0 hz1 hz2 rfl (by decide) vo l.length (aa7 0 l) (by rfl) (za HO) ⟨W.heap.size,0,none⟩ 1 1 [.int .i64 x.kind,.int .i64 x.tag,.int .i64 x.id,.int .i64 (zg l).length,.int .i64 x.fs.length,.bool false] (by rfl) rfl (afg (by simp) _ _) (aey _ _ _ _ _ _) (by decide) (by unfold maxLen;omega) (by omega) (by have:=za HS1;simp;omega) (W.heap.size+1) (by simp) ?_
 intro g cap w3 hown hgrow hat hlt3
 have hold:∀j,j<W.heap.size→vo.ownBlock≠some j→w3.heap[j]?=W.heap[j]?:=fun j hj hv=>(hgrow.block j (by simp;omega) (fun q=>hv q.symm)).trans (Below.heap_alloc _ _ _ hj)
 have hnv:vo.ownBlock≠some w.heap.size:=fun q=>by have:=(za HVT _ q).2.1;omega
 have hbv:vo.ownBlock≠some b:=fun q=>by
  obtain⟨_,_,cs',q3⟩:=za HVT _ q
  rw[(za KP).blk] at q3
  cases q3
  exact(za KP).tO rfl
 have hnb:=(hold w.heap.size (by have:=za HS1;omega) hnv).trans (za HW0)
 have hhb:=(hold b (hlt (za HBLK)) hbv).trans (za HBLK)
 have z1:w3.cell? ⟨b,o+1,none⟩=some vo:=(zd hhb (o+1)).trans (za KP).e1
 have y1:=zt hhb (o+1)
 have HHB:=zc hhb
 have HOWN:=zc hown
 have HOLD:=zc hold
 have HGR:=zc (show w3.os=w.os∧w3.tape=w.tape∧w3.output=w.output∧w.heap.size≤w3.heap.size from ⟨hgrow.os.trans (za HBA).os,hgrow.tape.trans (za HBA).tape,hgrow.output.trans (za HBA).output,by have:=hgrow.size;have:=za HS1;simp at *;omega⟩)
 have HAT:=zc hat
 have hbn:b≠w.heap.size:=by omega
 have s4:∀u,(w3.setCell ⟨b,o+1,none⟩ u).heap[w.heap.size]?=_:=fun u=>(zo u (Ne.symm hbn)).trans hnb
 clear hown hgrow hat hlt3 hold hhb hnv hbv
 refine hK.out _ _ ⟨zd hnb 0,zd hnb 1,zd hnb 2,zd hnb 3,zd hnb 4,zd hnb 5⟩ (fun hHeldA=>?_)
 clear hK K
 simp only[Act.put,sA,sB,sC]
 refine wpAnyH_take (i:=8) (oi:={ dst:=some 22,op:=_,type:=_,pos:=_,after:=_,guard:=_ }) (v:=?_) rfl (by kernel_rfl) (by kernel_rfl) (by kernel_rfl) (fun _ _ _ h=>h) (Or.inl ⟨by rfl,?_⟩) (by assumption) ?_
 case refine_2 =>
  intro w hSw
  try dsimp only at hSw
  go_simp
  try with_reducible rfl
 simp only[Act.put,sA,sB,sC]
 refine wpAnyH_take (i:=9) (oi:={ dst:=some 23,op:=_,type:=_,pos:=_,after:=_,guard:=_ }) (v:=?_) rfl (by kernel_rfl) (by kernel_rfl) (by kernel_rfl) (fun _ _ _ h=>h) (Or.inl ⟨by rfl,?_⟩) (by assumption) ?_
 case refine_2 =>
  intro w hSw
  try dsimp only at hSw
  go_simp
  try with_reducible rfl
 simp only[Act.put,sA,sB,sC]
 refine wpAnyH_ready (rs:=[10]) (by kernel_rfl) (by simp) ?_
 refine AllReadyH.cons (o:={ dst:=none,op:=_,type:=_,pos:=_,after:=_,guard:=_ }) rfl (fun K hK=>?_) AllReadyH.nil
 go_simp
 refine hK.out _ _ ⟨zd (s4 _) 0,zd (s4 _) 1,zd (s4 _) 2,zd (s4 _) 3,zd (s4 _) 4,zd (s4 _) 5⟩ (fun hHeldS=>?_)
 clear hK K
 refine wpAnyH_done (by kernel_rfl) ?_ _
 clear z1 y1 s4 hHeldS
 obtain⟨v4,hv4⟩:∃v4,(Value.slice (some ⟨g,0,none⟩) (l.length+1) cap)=v4:=⟨_,rfl⟩
 have hblk4:=aad (za HHB) (o+1) v4
 have hfr4:∀j,j<w.heap.size→j≠b→vo.ownBlock≠some j→(w3.setCell ⟨b,o+1,none⟩ v4).heap[j]?=w.heap[j]?:=fun j hj hjb hjv=>(zo v4 hjb).trans ((za HOLD j (by have:=za HS1;omega) hjv).trans ((za HBA).block j hj))
 have hvfb:∀j,(Value.slice gf (zg l).length cf).ownBlock=some j→j≠b∧vo.ownBlock≠some j:=fun j hj=>by
  obtain⟨_,_,cs',q3⟩:=za HFT j hj
  refine⟨fun q=>?_,fun q=>?_⟩
  ·subst q
   rw[(za KP).blk] at q3
   cases q3
   exact(za KP).tV rfl
  ·obtain⟨_,_,cs'',q4⟩:=za HVT j q
   rw[q3] at q4
   cases q4
 have HFL4:=zc (zs (w':=w3.setCell ⟨b,o+1,none⟩ v4) (za KP).flds fun j hj=>hfr4 j (za HFT j hj).2.1 (hvfb j hj).1 (hvfb j hj).2)
 have HOB4:Hid ((w3.setCell ⟨b,o+1,none⟩ v4).ownsRow B 61 6 v4 (l.length+1) (aa7 0 l++[.int .i64 x.kind,.int .i64 x.tag,.int .i64 x.id,.int .i64 (zg l).length,.int .i64 x.fs.length,.bool false])):=by
  rw[←hv4]
  refine zs (za HOWN) fun j hj=>zo _ fun q=>?_
  subst q
  obtain⟨_,_,cs',q3⟩:=zp (za HOWN) j hj
  rw[za HHB] at q3
  cases q3
  exact(za KP).tO rfl
 have hsz4:w.heap.size≤(w3.setCell ⟨b,o+1,none⟩ v4).heap.size:=by have:=(za HGR).2.2.2;simpa [World.setCell] using this
 have HNW:Hid (∀j u,(x.fs.flatMap aaw)[j]?=some u→(w3.setCell ⟨b,o+1,none⟩ v4).cell? (ad.add j)=some u):=fun j u hu=>by
  obtain⟨cs',fr',hsr⟩:=za HSRC
  have h1:(w3.setCell ⟨b,o+1,none⟩ v4).heap[ad.block]?=w.heap[ad.block]?:=hfr4 ad.block (hlt hsr) (fun q=>by
   rw[q,(za KP).blk] at hsr
   cases hsr
   exact(za KP).tV rfl) (fun q=>by
   obtain⟨_,_,cs'',q4⟩:=za HVT _ q
   rw[hsr] at q4
   cases q4)
  have e:(ad.add j).block=ad.block:=by unfold Addr.add;split <;> rfl
  exact(World.cell?_of_block (by rw[e];exact h1)).trans (za HAD j u hu)
 have c42:(w3.setCell ⟨b,o+1,none⟩ v4).cell? ⟨b,o+2,none⟩=some (.slice gf (zg l).length cf):=by
  rw[zd hblk4 (o+2),Array.getElem?_setIfInBounds_ne (by omega)]
  exact(za KP).e2
 have HG4:=zc (show (w3.setCell ⟨b,o+1,none⟩ v4).os=w.os∧(w3.setCell ⟨b,o+1,none⟩ v4).tape=w.tape∧(w3.setCell ⟨b,o+1,none⟩ v4).output=w.output from ⟨(za HGR).1,(za HGR).2.1,(za HGR).2.2.1⟩)
 rw[hv4]
 have HV4:=zc hv4
 have HBLK4:=zc hblk4
 have HFR4:=zc hfr4
 have HVFB:=zc hvfb
 generalize w3.setCell ⟨b,o+1,none⟩ v4=w4 at *
 clear hblk4 hfr4 hvfb hv4
 go_wp2_with (at_builtin;refine wpList_append_lies _ rfl _ _ _ rfl B 69 i1 (.agg #[.int .i64 0,.int .i64 0,.string ByteArray.empty]) 3 32 underlying32 hi1 hy0 hy1 hy2 rfl (by decide) _ (zg l).length (acg l) rfl (za HFL4) ad x.fs.length c (x.fs.flatMap aaw) rfl (adf _) (za HNW) (aie _) hxp ?c3 ?c4 ?c5 w4.heap.size rfl ?_)
 case c3=>unfold maxLen;omega
 case c4=>omega
 case c5=>omega
 intro g5 cap5 w5 hown2 hgrow2 hat5 hlt5
 obtain⟨v5,hv5⟩:∃v5,(Value.slice (some ⟨g5,0,none⟩) ((zg l).length+x.fs.length) cap5)=v5:=⟨_,rfl⟩
 have hold5:∀j,j<w4.heap.size→(Value.slice gf (zg l).length cf).ownBlock≠some j→w5.heap[j]?=w4.heap[j]?:=fun j hj hv=>hgrow2.block j hj (fun q=>hv q.symm)
 have hbf:(Value.slice gf (zg l).length cf).ownBlock≠some b:=fun q=>(za HVFB b q).1 rfl
 have hblk5:=(hold5 b (hlt (za HBLK4)) hbf).trans (za HBLK4)
 have e1:w5.cell? ⟨b,o+1,none⟩=some (.slice (some ⟨g,0,none⟩) (l.length+1) cap):=by
  rw[zd hblk5 (o+1),za HV4]
  simp[show o+1<cs.size by omega]
 have z2:w5.cell? ⟨b,o+2,none⟩=some (.slice gf (zg l).length cf):=by
  rw[zd hblk5 (o+2),Array.getElem?_setIfInBounds_ne (by omega)]
  exact(za KP).e2
 have y2:=zt hblk5 (o+2)
 have hblk6:=aad hblk5 (o+2) v5
 have e6:(w5.setCell ⟨b,o+2,none⟩ v5).cell? ⟨b,o,none⟩=some (.int .i64 f):=by
  rw[zd hblk6 o,Array.getElem?_setIfInBounds_ne (by omega),Array.getElem?_setIfInBounds_ne (by omega)]
  exact(za KP).e0
 have HPT:Hid (PtB B (w5.setCell ⟨b,o+2,none⟩ v5) b o ((cs.setIfInBounds (o+1) v4).setIfInBounds (o+2) v5) T f (l++[x]) v4 v5):=by
  refine⟨hblk6,?_,?_,?_,?_,?_,?_,?_,(za KP).tO,(za KP).tV⟩
  ·rw[Array.getElem?_setIfInBounds_ne (by omega),Array.getElem?_setIfInBounds_ne (by omega)]
   exact(za KP).e0
  ·rw[Array.getElem?_setIfInBounds_ne (by omega)]
   simp[show o+1<cs.size by omega]
  ·simp[show o+2<cs.size by omega]
  ·have hk:=zs (w':=w5.setCell ⟨b,o+2,none⟩ v5) (za HOB4) fun j hj=>by
    obtain⟨_,hj2,cs',q3⟩:=zp (za HOB4) j hj
    rw[zo v5 (fun q=>by
     subst q
     rw[za HBLK4] at q3
     cases q3
     exact(za KP).tO rfl)]
    exact hold5 j hj2 fun q=>by
     obtain⟨_,_,cs'',q4⟩:=zp (za HFL4) j q
     rw[q3] at q4
     cases q4
   rw[List.length_append,afv,show aaz (zg l).length x=[.int .i64 x.kind,.int .i64 x.tag,.int .i64 x.id,.int .i64 (zg l).length,.int .i64 x.fs.length,.bool false] by simp[aaz,za HXN]]
   exact hk
  ·rw[ad5,afw,←hv5]
   refine zs hown2 fun j hj=>zo _ fun q=>?_
   subst q
   obtain⟨_,_,cs',q3⟩:=zp hown2 j hj
   rw[hblk5] at q3
   cases q3
   exact(za KP).tV rfl
  ·rw[ad5];omega
  ·simp;omega
 have HFRA:Hid (FrA b vo (.slice gf (zg l).length cf) w (w5.setCell ⟨b,o+2,none⟩ v5)):=⟨hgrow2.os.trans (za HG4).1,hgrow2.tape.trans (za HG4).2.1,hgrow2.output.trans (za HG4).2.2,by have:=hgrow2.size;simp[World.setCell];omega,fun k hk h1 h2 h3=>(zo v5 h1).trans ((hold5 k (by omega) h3).trans (za HFR4 k hk h1 h2))⟩
 have HW1:Hid (v4.ownBlock=vo.ownBlock∨∀j,v4.ownBlock=some j→w.heap.size≤j):=by
  rw[←za HV4]
  rcases za HAT with q | q
  ·exact Or.inl q.symm
  ·refine Or.inr fun j hj=>?_
   simp only[Value.ownBlock,Option.some.injEq] at hj
   have:=za HS1
   omega
 have HW2:Hid (v5.ownBlock=(Value.slice gf (zg l).length cf).ownBlock∨∀j,v5.ownBlock=some j→w.heap.size≤j):=by
  rw[←hv5]
  rcases hat5 with q | q
  ·exact Or.inl q.symm
  ·refine Or.inr fun j hj=>?_
   simp only[Value.ownBlock,Option.some.injEq] at hj
   omega
 have wl:IntKind.i64.wrap (l.length:Int)=(l.length:Int):=aav (by omega) (by omega)
 have HE6:=zc e6
 have HV5:=zc hv5
 clear hown2 hgrow2 hat5 hlt5 hold5 hbf hblk5 hblk6 e6 hv5
 go_wp2_with fail
 rw[za HV5]
 refine(adv (za HE6) (i:=l.length) hf0 (by omega)).mono ?_
 rintro e w7 ⟨rfl,rfl⟩
 go_wp2_with fail
 go_ret
 exact⟨rfl,v4,v5,za HPT,za HFRA,za HW1,za HW2⟩
theorem akq (w:World) (b o:Nat):w.setCells b o []=w:=by simp[World.setCells]
theorem aip {w:World} {B:Nat} {t ty e:TypeId} {i:TypeInfo} (ht:prog.underlying t=some (.slice e)) (hi:prog.info? e=some i) {v:Value} {n:Nat} {xs:List Value} {k:Nat} (h:w.ownsRow B e k v n xs) (s:Option Addr) (c:Nat) :
  (Builtin.append_ #[t,t] ty #[v,.slice s 0 c]).run prog w=.ok v w:=by
 rcases h.2 with ⟨rfl,rfl⟩ | ⟨g,cap,cur,rfl,h2,h3,h4,h5,h6,h7⟩
 ·cases s with
  | none=>simp[Builtin.append_,run_underlying ht,sizeOf,typeInfo,hi,Builtin.lenOf,Builtin.firstCells]
  | some a=>simp[Builtin.append_,run_underlying ht,sizeOf,typeInfo,hi,Builtin.lenOf,Builtin.firstCells,loadCells,loadCellsFrom]
 ·cases s with
  | none=>simp[Builtin.append_,run_underlying ht,sizeOf,typeInfo,hi,Builtin.lenOf,Builtin.firstCells,h4,storeCells]
  | some a =>
   rw[run_append_room_cells w t ty e i ht hi g 0 n cap a 0 c [] (by simp) (fun j u hu=>by simp at hu) (fun u hu=>by simp at hu) (by omega) (fun j hj=>by simp at hj) (fun j hj=>by simp at hj),akq]
   rfl
theorem aez {w:World} {ops:Array Oper} {rest:List Oper} {o:Oper} {a:Act} {Q:Exit→Act→World→Prop} (hgd:o.guard=none) (s x:Operand) (t:TypeId)
  (ho:o.op=.call { callee:=.builtin .append,args:=#[s,x],argTypes:=#[t,t] }) {B:Nat} {e:TypeId} {i:TypeInfo} (ht:prog.underlying t=some (.slice e)) (hi:prog.info? e=some i)
  {v:Value} {n:Nat} {xs:List Value} {k:Nat} (hs:a.eval s=v) (hown:w.ownsRow B e k v n xs) {q:Option Addr} {c:Nat} (hx:a.eval x=.slice q 0 c)
  (h:wpList prog ops Q rest (a.put o.dst v) w):wpList prog ops Q (o :: rest) a w :=
 wpList_plain hgd fun _ hK=>by
  have hr:=aip (ty:=o.type) ht hi hown q c
  unfold Oper.wp execOp
  simp only[ho,resolve,invoke,builtin,Sem.run_bind,Sem.run_pure,Result.andThen_ok,List.map_toArray,List.map_cons,List.map_nil,hs,hx,hr]
  exact hK _ _ h
end Go.Proofs.YtpnghfghdbijlaaGreatDoor
