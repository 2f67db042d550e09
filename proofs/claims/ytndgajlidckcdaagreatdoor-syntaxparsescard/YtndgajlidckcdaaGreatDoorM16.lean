/- A part. -/
import Derived.Test.YtndgajlidckcdaaGreatDoorM15
import Derived.Lib.AppendIntMem
import Derived.Lib.ItoaWalk
open Go.Proofs.Tryz
namespace Go.Proofs.YtndgajlidckcdaaGreatDoor
open Go.RowKit
set_option linter.unusedVariables false
set_option linter.unusedSimpArgs false
set_option maxRecDepth 100000
set_option maxHeartbeats 8000000
theorem acr {f:Nat} {t k:Tree} (hm:t.many≤f+1) (hk:k∈t.kids):k.many≤f:=by
 have:=aet hk
 rw[aa4] at hm
 omega
theorem adc {f:Nat} {t k:Tree} (hx:Wx t) (hm:t.many≤f+1) (hk:k∈t.kids) (hv:vK k):Wx k∧vK k∧k.many≤f:=⟨hx.kid hk,hv,acr hm hk⟩
theorem agi {f:Nat} {t:Tree} {l:List Tree} (hx:Wx t) (hm:t.many≤f+1) (hl:∀k∈l,k∈t.kids∧vK k):ahx f l:=fun k hk=>adc hx hm (hl k hk).1 (hl k hk).2
theorem aku {f:Nat} {t p:Tree} (hx:Wx t) (hm:t.many≤f+1) (hp:p∈t.kids) (h6:p.kind=6):ahx f p.kids:=fun k hk=>by
 have h:=akq (hx.kid hp) h6 k hk
 refine⟨h.1,h.2,?_⟩
 have:=acr hm hp
 have:=aet hk
 have:=aa4 p
 omega
theorem ahk {f:Nat} {t p:Tree} (hx:Wx t) (hm:t.many≤f+1) (hp:p∈t.kids) (h7:p.kind=7):akt f p.kids:=fun k hk=>by
 have h:=amg (hx.kid hp) h7 k hk
 refine⟨h.1,h.2,?_⟩
 have:=acr hm hp
 have:=aet hk
 have:=aa4 p
 omega
theorem aeb {f:Nat} {t p:Tree} (hf:f≤1200) (hm:t.many≤f+1) (hp:p∈t.kids):aay p.kids≤1200:=by
 have:=acr hm hp
 have:=aa4 p
 omega
theorem ac5 {f:Nat} {t:Tree} (hf:f≤1200) (hm:t.many≤f+1):aay t.kids≤1200:=by
 have:=aa4 t
 omega
theorem aox {R:Wr} {f D:Nat} (hW:WB R f D) {d:Nat} {t:Tree} (hx:Wx t) (hm:t.many≤f+1) (hd:d+1≤D) {k:Tree} (hk:k∈t.kids) (hv:vK k):(R.B d k).size≤40000000:=by
 have:=ab3 hW.len hx hm hd hk hv
 have:=acr hm hk
 have:=hW.f
 omega
theorem ads {R:Wr} {f D:Nat} (hW:WB R f D) {d:Nat} {t:Tree} (hx:Wx t) (hm:t.many≤f+1) (hd:d+1≤D) {k:Tree} (hk:k∈t.kids) (hv:vK k) (l:Nat):(zu R d l k).size≤40000000:=by
 have:=acb l (ab3 hW.len hx hm hd hk hv)
 have:=acr hm hk
 have:=hW.f
 omega
theorem sz_pa {R:Wr} {f D:Nat} (hW:WB R f D) {d:Nat} {t:Tree} (hx:Wx t) (hm:t.many≤f+1) (hd:d+1≤D) {p:Tree} (hk:p∈t.kids) (h6:p.kind=6):(abo R d p.kids).size≤40000000:=by
 have:=aso hW.len hx hm hd hk h6
 have:=acr hm hk
 have:=hW.f
 omega
theorem ai1 {R:Wr} {f D:Nat} (hW:WB R f D) {d:Nat} {t:Tree} (hx:Wx t) (hm:t.many≤f+1) (hd:d+1≤D) {p:Tree} (hk:p∈t.kids) (h7:p.kind=7):(aby R d p.kids).size≤40000000:=by
 have:=aij hW.len hx hm hd hW.D hk h7
 have:=acr hm hk
 have:=hW.f
 omega
theorem aje {R:Wr} {f D:Nat} (hW:WB R f D) {w:World} (hg:SG w) {b d:Nat} {t:Tree} (hn:Nd w b t) (hx:Wx t) (hm:t.many≤f+1) (hd:d+1≤D) (hc:ahq 2 t.kids) :
  Calls prog 130 #[.agg #[.int .i64 d],.pointer (some ⟨b,0,none⟩)] w fun e w'=>e=.returned (.string (afo R d t))∧Add w w':=by
 obtain⟨p,bl,ek,h6,h7⟩:=hc
 obtain⟨g,cap,k0,hcap,hmx,c5,g0,n0,hrest⟩:=hn.one ek
 obtain⟨k1,g1,n1⟩:=hrest 0 _ rfl
 obtain⟨vp,p5,rp⟩:=n0.kids
 obtain⟨vb,b5,rb⟩:=n1.kids
 have HC0:=zb fun (w1:World) (ha:Add w w1)=>aj4 hW (hg.add ha) (d:=d) (rp.add ha) (aku hx hm (by rw[ek];simp) h6) (aeb hW.f hm (by rw[ek];simp)) (Nat.le_of_succ_le hd)
 have HC1:=zb fun (w1:World) (ha:Add w w1)=>agh hW (hg.add ha) (d:=d) (rb.add ha) (ahk hx hm (by rw[ek];simp) h7) (aeb hW.f hm (by rw[ek];simp)) hd
 have hz0:=sz_pa hW hx hm hd (p:=p) (by rw[ek];simp) h6
 have hz1:=ai1 hW hx hm hd (p:=bl) (by rw[ek];simp) h7
 have ha0:=qE w d
 have q0:=qD w d
 have c5':=ha0.cellk c5
 have g0':=ha0.cellk g0
 have g1':=ha0.cellk g1
 have p5':=ha0.cellk p5
 have b5':=ha0.cellk b5
 have HX:=zb (show afo R d t=(((⟨#[40]⟩++abo R d p.kids)++⟨#[41,32]⟩)++aby R d bl.kids) by unfold afo;rw[aa3 ek,aeu ek])
 have HA:=zb ha0
 clear hn hx hm hd hg hW n0 n1 rp rb hrest c5 g0 g1 p5 b5 ha0
 generalize abo R d p.kids=X0 at *
 generalize aby R d bl.kids=X1 at *
 go_enter func130,ntmps130
 go_wp2_with fail
 generalize w.alloc (.cells #[.int .i64 d] 89)=wb at *
 have ent0:∀w:World,Sem.run prog (callFunc 192 #[.agg #[.int .i64 d],vp]) w=.ok (.enter 192 #[.agg #[.int .i64 d],vp]) w:=fun _=>by kernel_rfl
 have ent1:∀w:World,Sem.run prog (callFunc 129 #[.agg #[.int .i64 d],vb]) w=.ok (.enter 129 #[.agg #[.int .i64 d],vb]) w:=fun _=>by kernel_rfl
 refine wp_region_held_drew (S:=fun w'=>w'.cell? ⟨w.heap.size,0,none⟩=some (.int .i64 d)∧w'.cell? ⟨b,5,none⟩=some (.slice (some ⟨g,0,none⟩) 2 cap)∧w'.cell? ⟨g,0,none⟩=some (.pointer (some ⟨k0,0,none⟩))∧w'.cell? ⟨g,1,none⟩=some (.pointer (some ⟨k1,0,none⟩))∧w'.cell? ⟨k0,5,none⟩=some (vp)∧w'.cell? ⟨k1,5,none⟩=some (vb)∧Hid (Add w w')) (by kernel_rfl) ⟨q0,c5',g0',g1',p5',b5',(za HA).drew⟩ (fun hHeld=>?_)
 refine tka 0 5 rfl ?_
 refine tka 1 6 rfl ?_
 refine tka 2 7 rfl ?_
 refine tka 3 8 rfl ?_
 refine tka 4 9 rfl ?_
 refine tka 5 10 rfl ?_
 refine tka 6 11 rfl ?_
 refine tka 7 12 rfl ?_
 refine tka 8 13 rfl ?_
 refine tka 9 14 rfl ?_
 simp only[sA,sB,sC]
 refine tka 13 18 rfl ?_
 refine tka 14 19 rfl ?_
 refine tka 15 20 rfl ?_
 refine tka 16 21 rfl ?_
 refine tka 17 22 rfl ?_
 refine tka 18 23 rfl ?_
 refine tka 19 24 rfl ?_
 refine tka 20 25 rfl ?_
 refine tka 21 26 rfl ?_
 refine tka 22 27 rfl ?_
 simp only[sA,sB,sC]
 refine wpAnyH_ready (rs:=[10]) (by kernel_rfl) (by simp) ?_
 refine AllReadyH.cons (o:={ dst:=some 15,op:=_,type:=_,pos:=_,after:=_,guard:=_ }) rfl (fun K hK=>?_) AllReadyH.nil
 refine zm (by kernel_rfl) (by simp[Act.eval,ent0,go_sem]) ((za HC0 _ (za hHeld.2.2.2.2.2.2)).mono ?_)
 rintro e wc0 ⟨rfl,hac0⟩
 refine hK.out _ _ ⟨hac0.cellk hHeld.1,hac0.cellk hHeld.2.1,hac0.cellk hHeld.2.2.1,hac0.cellk hHeld.2.2.2.1,hac0.cellk hHeld.2.2.2.2.1,hac0.cellk hHeld.2.2.2.2.2.1,(za hHeld.2.2.2.2.2.2).tr hac0⟩ (fun hHeld10=>?_)
 clear hK K
 simp only[Act.put,sA,sB,sC]
 refine tkb 11 16 rfl ?_
 refine tkb 12 17 rfl ?_
 simp only[sA,sB,sC]
 refine wpAnyH_ready (rs:=[23]) (by kernel_rfl) (by simp) ?_
 refine AllReadyH.cons (o:={ dst:=some 28,op:=_,type:=_,pos:=_,after:=_,guard:=_ }) rfl (fun K hK=>?_) AllReadyH.nil
 refine zm (by kernel_rfl) (by simp[Act.eval,ent1,go_sem]) ((za HC1 _ (za hHeld10.2.2.2.2.2.2)).mono ?_)
 rintro e wc1 ⟨rfl,hac1⟩
 refine hK.out _ _ ⟨hac1.cellk hHeld10.1,hac1.cellk hHeld10.2.1,hac1.cellk hHeld10.2.2.1,hac1.cellk hHeld10.2.2.2.1,hac1.cellk hHeld10.2.2.2.2.1,hac1.cellk hHeld10.2.2.2.2.2.1,(za hHeld10.2.2.2.2.2.2).tr hac1⟩ (fun hHeld23=>?_)
 clear hK K
 simp only[Act.put,sA,sB,sC]
 refine tkb 24 29 rfl ?_
 refine tka 25 4 rfl ?_
 simp only[sA,sB,sC]
 refine wpAnyH_done (by kernel_rfl) ?_ _
 go_wp2_with fail
 go_ret
 rw[za HX]
 exact⟨rfl,(za hHeld23.2.2.2.2.2.2)⟩
theorem aj5 {R:Wr} {f D:Nat} (hW:WB R f D) {w:World} (hg:SG w) {b d:Nat} {t:Tree} (hn:Nd w b t) (hx:Wx t) (hm:t.many≤f+1) (hd:d+1≤D) {c bl:Tree} {l:List Tree} (ek:t.kids=c :: bl :: l) (hv:vK c) (h7:bl.kind=7) :
  Calls prog 134 #[.agg #[.int .i64 d],.pointer (some ⟨b,0,none⟩)] w fun e w'=>e=.returned (.string (adi R d t))∧Add w w':=by
 obtain⟨g,cap,k0,hcap,hmx,c5,g0,n0,hrest⟩:=hn.one ek
 obtain⟨k1,g1,n1⟩:=hrest 0 _ rfl
 obtain⟨vb,b5,rb⟩:=n1.kids
 have oc:=adc hx hm (k:=c) (by rw[ek];simp) hv
 have HC0:=zb fun (w1:World) (ha:Add w w1)=>ae4 hW (hg.add ha) (d:=d) (n0.add ha) oc.1 oc.2.1 oc.2.2 (Nat.le_of_succ_le hd)
 have HC1:=zb fun (w1:World) (ha:Add w w1)=>agh hW (hg.add ha) (d:=d) (rb.add ha) (ahk hx hm (by rw[ek];simp) h7) (aeb hW.f hm (by rw[ek];simp)) hd
 obtain⟨L,hL⟩:∃L,l.length=L:=⟨_,rfl⟩
 have c5:w.cell? ⟨b,5,none⟩=some (.slice (some ⟨g,0,none⟩) (L+2) cap):=by rw[←hL];exact c5
 have hL0:(0:Int)<(L:Int)+2:=by omega
 have hL1:(1:Int)<(L:Int)+2:=by omega
 have hz0:=ads hW hx hm hd (k:=c) (by rw[ek];simp) hv 1
 have hz1:=ai1 hW hx hm hd (p:=bl) (by rw[ek];simp) h7
 have ha0:=qE w d
 have q0:=qD w d
 have c5':=ha0.cellk c5
 have g0':=ha0.cellk g0
 have g1':=ha0.cellk g1
 have b5':=ha0.cellk b5
 have HX:=zb (show adi R d t=(((⟨#[40]⟩++zu R d 1 c)++⟨#[41,32]⟩)++aby R d bl.kids) by unfold adi;rw[aa3 ek,aeu ek])
 have HA:=zb ha0
 clear hn hx hm hd hg hW n0 n1 rb hrest oc hL c5 g0 g1 b5 ha0
 generalize zu R d 1 c=X0 at *
 generalize aby R d bl.kids=X1 at *
 go_enter func134,ntmps134
 go_wp2_with fail
 generalize w.alloc (.cells #[.int .i64 d] 89)=wb at *
 have ent0:∀w:World,Sem.run prog (callFunc 131 #[.agg #[.int .i64 d],.pointer (some ⟨k0,0,none⟩)]) w=.ok (.enter 131 #[.agg #[.int .i64 d],.pointer (some ⟨k0,0,none⟩)]) w:=fun _=>by kernel_rfl
 have ent1:∀w:World,Sem.run prog (callFunc 129 #[.agg #[.int .i64 d],vb]) w=.ok (.enter 129 #[.agg #[.int .i64 d],vb]) w:=fun _=>by kernel_rfl
 refine wp_region_held_drew (S:=fun w'=>w'.cell? ⟨w.heap.size,0,none⟩=some (.int .i64 d)∧w'.cell? ⟨b,5,none⟩=some (.slice (some ⟨g,0,none⟩) (L+2) cap)∧w'.cell? ⟨g,0,none⟩=some (.pointer (some ⟨k0,0,none⟩))∧w'.cell? ⟨g,1,none⟩=some (.pointer (some ⟨k1,0,none⟩))∧w'.cell? ⟨k1,5,none⟩=some (vb)∧Hid (Add w w')) (by kernel_rfl) ⟨q0,c5',g0',g1',b5',(za HA).drew⟩ (fun hHeld=>?_)
 refine tka 0 5 rfl ?_
 refine tka 1 6 rfl ?_
 refine tka 2 7 rfl ?_
 refine tka 3 8 rfl ?_
 refine tka 4 9 rfl ?_
 refine tka 5 10 rfl ?_
 refine tka 6 11 rfl ?_
 refine tka 10 15 rfl ?_
 refine tka 11 16 rfl ?_
 refine tka 12 17 rfl ?_
 simp only[sA,sB,sC]
 refine tka 13 18 rfl ?_
 refine tka 14 19 rfl ?_
 refine tka 15 20 rfl ?_
 refine tka 16 21 rfl ?_
 refine tka 17 22 rfl ?_
 refine tka 18 23 rfl ?_
 refine tka 19 24 rfl ?_
 simp only[sA,sB,sC]
 refine wpAnyH_ready (rs:=[7]) (by kernel_rfl) (by simp) ?_
 refine AllReadyH.cons (o:={ dst:=some 12,op:=_,type:=_,pos:=_,after:=_,guard:=_ }) rfl (fun K hK=>?_) AllReadyH.nil
 refine zm (by kernel_rfl) (by simp[Act.eval,ent0,go_sem]) ((za HC0 _ (za hHeld.2.2.2.2.2)).mono ?_)
 rintro e wc0 ⟨rfl,hac0⟩
 refine hK.out _ _ ⟨hac0.cellk hHeld.1,hac0.cellk hHeld.2.1,hac0.cellk hHeld.2.2.1,hac0.cellk hHeld.2.2.2.1,hac0.cellk hHeld.2.2.2.2.1,(za hHeld.2.2.2.2.2).tr hac0⟩ (fun hHeld7=>?_)
 clear hK K
 simp only[Act.put,sA,sB,sC]
 refine tkb 8 13 rfl ?_
 refine tkb 9 14 rfl ?_
 simp only[sA,sB,sC]
 refine wpAnyH_ready (rs:=[20]) (by kernel_rfl) (by simp) ?_
 refine AllReadyH.cons (o:={ dst:=some 25,op:=_,type:=_,pos:=_,after:=_,guard:=_ }) rfl (fun K hK=>?_) AllReadyH.nil
 refine zm (by kernel_rfl) (by simp[Act.eval,ent1,go_sem]) ((za HC1 _ (za hHeld7.2.2.2.2.2)).mono ?_)
 rintro e wc1 ⟨rfl,hac1⟩
 refine hK.out _ _ ⟨hac1.cellk hHeld7.1,hac1.cellk hHeld7.2.1,hac1.cellk hHeld7.2.2.1,hac1.cellk hHeld7.2.2.2.1,hac1.cellk hHeld7.2.2.2.2.1,(za hHeld7.2.2.2.2.2).tr hac1⟩ (fun hHeld20=>?_)
 clear hK K
 simp only[Act.put,sA,sB,sC]
 refine tkb 21 26 rfl ?_
 refine tka 22 4 rfl ?_
 simp only[sA,sB,sC]
 refine wpAnyH_done (by kernel_rfl) ?_ _
 go_wp2_with fail
 go_ret
 rw[za HX]
 exact⟨rfl,(za hHeld20.2.2.2.2.2)⟩
theorem aj6 {R:Wr} {f D:Nat} (hW:WB R f D) {w:World} (hg:SG w) {b d:Nat} {t:Tree} (hn:Nd w b t) (hx:Wx t) (hm:t.many≤f+1) (hd:d+1≤D) {c:Tree} {l:List Tree} (ek:t.kids=c :: l) (hv:vK c) :
  Calls prog 247 #[.agg #[.int .i64 d],.pointer (some ⟨b,0,none⟩)] w fun e w'=>e=.returned (.string (zu R d 8 (kid t 0)))∧Add w w':=by
 obtain⟨g,cap,k0,hcap,hmx,c5,g0,n0,hrest⟩:=hn.one ek
 have oc:=adc hx hm (k:=c) (by rw[ek];simp) hv
 obtain⟨L,hL⟩:∃L,l.length=L:=⟨_,rfl⟩
 have c5:w.cell? ⟨b,5,none⟩=some (.slice (some ⟨g,0,none⟩) (L+1) cap):=by rw[←hL];exact c5
 have HC0:=zb fun (w1:World) (ha:Add w w1)=>af1 hW (hg.add ha) (d:=d) (l:=8) (n0.add ha) oc.1 oc.2.1 oc.2.2 (Nat.le_of_succ_le hd)
 have ha0:=qE w d
 have q0:=qD w d
 have c5':=ha0.cellk c5
 have g0':=ha0.cellk g0
 have HX:=zb (show zu R d 8 (kid t 0)=zu R d 8 c by rw[aa3 ek])
 have HA:=zb ha0
 clear hn hx hm hd hg hW n0 hrest oc hL c5 g0 ha0
 generalize zu R d 8 c=X0 at *
 go_enter func247,ntmps247
 go_wp2_with fail
 generalize w.alloc (.cells #[.int .i64 d] 89)=wb at *
 have ent0:∀w:World,Sem.run prog (callFunc 193 #[.agg #[.int .i64 d],.int .i64 8,.pointer (some ⟨k0,0,none⟩)]) w=.ok (.enter 193 #[.agg #[.int .i64 d],.int .i64 8,.pointer (some ⟨k0,0,none⟩)]) w:=fun _=>by kernel_rfl
 refine wp_region_held_drew (S:=fun w'=>w'.cell? ⟨w.heap.size,0,none⟩=some (.int .i64 d)∧w'.cell? ⟨b,5,none⟩=some (.slice (some ⟨g,0,none⟩) (L+1) cap)∧w'.cell? ⟨g,0,none⟩=some (.pointer (some ⟨k0,0,none⟩))∧Hid (Add w w')) (by kernel_rfl) ⟨q0,c5',g0',(za HA).drew⟩ (fun hHeld=>?_)
 refine tka 0 5 rfl ?_
 refine tka 1 6 rfl ?_
 refine tka 2 7 rfl ?_
 refine tka 3 8 rfl ?_
 refine tka 4 9 rfl ?_
 refine tka 5 10 rfl ?_
 refine tka 6 11 rfl ?_
 simp only[sA,sB,sC]
 refine wpAnyH_ready (rs:=[7]) (by kernel_rfl) (by simp) ?_
 refine AllReadyH.cons (o:={ dst:=some 12,op:=_,type:=_,pos:=_,after:=_,guard:=_ }) rfl (fun K hK=>?_) AllReadyH.nil
 refine zm (by kernel_rfl) (by simp[Act.eval,ent0,go_sem]) ((za HC0 _ (za hHeld.2.2.2)).mono ?_)
 rintro e wc0 ⟨rfl,hac0⟩
 refine hK.out _ _ ⟨hac0.cellk hHeld.1,hac0.cellk hHeld.2.1,hac0.cellk hHeld.2.2.1,(za hHeld.2.2.2).tr hac0⟩ (fun hHeld7=>?_)
 clear hK K
 simp only[Act.put,sA,sB,sC]
 refine tka 8 4 rfl ?_
 simp only[sA,sB,sC]
 refine wpAnyH_done (by kernel_rfl) ?_ _
 go_wp2_with fail
 go_ret
 rw[za HX]
 exact⟨rfl,(za hHeld7.2.2.2)⟩
theorem asr {R:Wr} {f D:Nat} (hW:WB R f D) {w:World} (hg:SG w) {b d:Nat} {t:Tree} (hn:Nd w b t) (hx:Wx t) (hm:t.many≤f+1) (hd:d+1≤D) {c:Tree} {l:List Tree} (ek:t.kids=c :: l) (hv:vK c) :
  Calls prog 132 #[.agg #[.int .i64 d],.pointer (some ⟨b,0,none⟩)] w fun e w'=>e=.returned (.string (ada R d t))∧Add w w':=by
 obtain⟨g,cap,k0,hcap,hmx,c5,g0,n0,hrest⟩:=hn.one ek
 have oc:=adc hx hm (k:=c) (by rw[ek];simp) hv
 obtain⟨L,hL⟩:∃L,l.length=L:=⟨_,rfl⟩
 have c5:w.cell? ⟨b,5,none⟩=some (.slice (some ⟨g,0,none⟩) (L+1) cap):=by rw[←hL];exact c5
 have HC0:=zb fun (w1:World) (ha:Add w w1)=>ae4 hW (hg.add ha) (d:=d) (n0.add ha) oc.1 oc.2.1 oc.2.2 (Nat.le_of_succ_le hd)
 have hz0:=ads hW hx hm hd (k:=c) (by rw[ek];simp) hv 1
 have ha0:=qE w d
 have q0:=qD w d
 have c5':=ha0.cellk c5
 have g0':=ha0.cellk g0
 have HX:=zb (show ada R d t=if (decide (d=0)&&Lib.hasPrefix (zu R d 1 c).data.toList [102,110,40])=true then ((⟨#[40]⟩++zu R d 1 c)++⟨#[41]⟩) else zu R d 1 c by unfold ada;rw[aa3 ek])
 have HA:=zb ha0
 clear hn hx hm hd hg hW n0 hrest oc hL c5 g0 ha0
 generalize zu R d 1 c=X0 at *
 go_enter func132,ntmps132
 go_wp2_with fail
 generalize w.alloc (.cells #[.int .i64 d] 89)=wb at *
 have ent0:∀w:World,Sem.run prog (callFunc 131 #[.agg #[.int .i64 d],.pointer (some ⟨k0,0,none⟩)]) w=.ok (.enter 131 #[.agg #[.int .i64 d],.pointer (some ⟨k0,0,none⟩)]) w:=fun _=>by kernel_rfl
 refine wp_region_held_drew (S:=fun w'=>w'.cell? ⟨w.heap.size,0,none⟩=some (.int .i64 d)∧w'.cell? ⟨b,5,none⟩=some (.slice (some ⟨g,0,none⟩) (L+1) cap)∧w'.cell? ⟨g,0,none⟩=some (.pointer (some ⟨k0,0,none⟩))∧Hid (Add w w')) (by kernel_rfl) ⟨q0,c5',g0',(za HA).drew⟩ (fun hHeld=>?_)
 refine tka 0 6 rfl ?_
 refine tka 1 7 rfl ?_
 refine tka 2 8 rfl ?_
 refine tka 3 9 rfl ?_
 refine tka 4 10 rfl ?_
 refine tka 5 11 rfl ?_
 refine tka 6 12 rfl ?_
 simp only[sA,sB,sC]
 refine wpAnyH_ready (rs:=[7]) (by kernel_rfl) (by simp) ?_
 refine AllReadyH.cons (o:={ dst:=some 13,op:=_,type:=_,pos:=_,after:=_,guard:=_ }) rfl (fun K hK=>?_) AllReadyH.nil
 refine zm (by kernel_rfl) (by simp[Act.eval,ent0,go_sem]) ((za HC0 _ (za hHeld.2.2.2)).mono ?_)
 rintro e wc0 ⟨rfl,hac0⟩
 refine hK.out _ _ ⟨hac0.cellk hHeld.1,hac0.cellk hHeld.2.1,hac0.cellk hHeld.2.2.1,(za hHeld.2.2.2).tr hac0⟩ (fun hHeld7=>?_)
 clear hK K
 simp only[Act.put,sA,sB,sC]
 refine tka 8 5 rfl ?_
 simp only[sA,sB,sC]
 refine wpAnyH_done (by kernel_rfl) ?_ _
 have HAL:=zb (za hHeld7.2.2.2)
 have q1:=hac0.cellk hHeld.1
 clear hHeld hHeld7 hac0
 by_cases h0:d=0
 ·subst h0
  cases hp:Lib.hasPrefix X0.data.toList [102,110,40]
  ·go_wp2_with (go_at_call 62;refine(Tryz.strings_HasPrefix _ _ _).mono ?_;rintro e w3 ⟨rfl,rfl⟩;rw[show Lib.hasPrefix X0.data.toList (⟨#[102,110,40]⟩:ByteArray).data.toList=false from hp])
   go_ret
   rw[za HX,if_neg (by rw[hp];decide)]
   exact⟨rfl,za HAL⟩
  ·go_wp2_with (go_at_call 62;refine(Tryz.strings_HasPrefix _ _ _).mono ?_;rintro e w3 ⟨rfl,rfl⟩;rw[show Lib.hasPrefix X0.data.toList (⟨#[102,110,40]⟩:ByteArray).data.toList=true from hp])
   go_ret
   rw[za HX,if_pos (by rw[hp];decide)]
   exact⟨rfl,za HAL⟩
 ·have hd0:((d:Int)==0)=false:=by rw[beq_eq_false_iff_ne];omega
  go_wp2_with fail
  go_ret
  rw[za HX,if_neg (by rw[decide_eq_false h0,Bool.false_and];exact Bool.false_ne_true)]
  exact⟨rfl,za HAL⟩
theorem bcn {w:World} {b:Nat} {t:Tree} (hn:Nd w b t) (hu:t.under.size≤16):Calls prog 128 #[.pointer (some ⟨b,0,none⟩)] w fun e w'=>e=.returned (.string (afp t))∧Add w w':=by
 obtain⟨ks,hv⟩:=hn.view
 have c2:=hv.c2
 by_cases h:t.under=zc
 ·have HX:=zb (show afp t=zc from if_pos h)
  rw[h] at c2
  clear hn hv hu h
  unfold zc at c2 HX
  go_enter func128,ntmps128
  go_wp2_with fail
  go_ret
  rw[za HX]
  exact⟨rfl,Add.refl _⟩
 ·have HX:=zb (show afp t=(⟨#[32,60,32]⟩++t.under) from if_neg h)
  have he:(t.under.toList==([]:List UInt8))=false:=by
   rw[beq_eq_false_iff_ne]
   intro e
   apply h
   rw[ByteArray.toList_eq] at e
   exact WideShapes.bytes_inj (by rw[e];rfl)
  clear hn hv h
  generalize t.under=U at *
  go_enter func128,ntmps128
  go_wp2_with fail
  go_ret
  rw[za HX]
  exact⟨rfl,Add.refl _⟩
theorem aqq {R:Wr} {f D:Nat} (hW:WB R f D) {w:World} (hg:SG w) {b d:Nat} {t:Tree} (hn:Nd w b t) (hx:Wx t) (hm:t.many≤f+1) (hd:d+1≤D) {c:Tree} {l:List Tree} (ek:t.kids=c :: l) (hv:vK c) (h42:c.kind=42) :
  Calls prog 249 #[.agg #[.int .i64 d],.pointer (some ⟨b,0,none⟩)] w fun e w'=>e=.returned (.string (adp R d t))∧Add w w':=by
 obtain⟨g,cap,k0,hcap,hmx,c5,g0,n0,hrest⟩:=hn.one ek
 have oc:=adc hx hm (k:=c) (by rw[ek];simp) hv
 obtain⟨L,hL⟩:∃L,l.length=L:=⟨_,rfl⟩
 have c5:w.cell? ⟨b,5,none⟩=some (.slice (some ⟨g,0,none⟩) (L+1) cap):=by rw[←hL];exact c5
 obtain⟨ks0,v0⟩:=n0.view
 have z0:=v0.c0
 rw[h42] at z0
 have HC0:=zb fun (w1:World) (ha:Add w w1)=>hW.bare w1 k0 c d (hg.add ha) (n0.add ha) oc.1 oc.2.1 oc.2.2 (Nat.le_of_succ_le hd)
 have hz0:=aox hW hx hm hd (k:=c) (by rw[ek];simp) hv
 have ha0:=qE w d
 have q0:=qD w d
 have c5':=ha0.cellk c5
 have g0':=ha0.cellk g0
 have z0':=ha0.cellk z0
 have HX:=zb (show adp R d t=((⟨#[40]⟩++R.B d c)++⟨#[41]⟩) by unfold adp;rw[aa3 ek,if_pos h42])
 have HA:=zb ha0
 clear hn hx hm hd hg hW n0 hrest oc hL c5 g0 z0 v0 ha0
 generalize R.B d c=X0 at *
 go_enter func249,ntmps249
 go_wp2_with fail
 generalize w.alloc (.cells #[.int .i64 d] 89)=wb at *
 have ent0:∀w:World,Sem.run prog (callFunc 229 #[.agg #[.int .i64 d],.pointer (some ⟨k0,0,none⟩)]) w=.ok (.enter 229 #[.agg #[.int .i64 d],.pointer (some ⟨k0,0,none⟩)]) w:=fun _=>by kernel_rfl
 refine wp_region_held_drew (S:=fun w'=>w'.cell? ⟨w.heap.size,0,none⟩=some (.int .i64 d)∧w'.cell? ⟨b,5,none⟩=some (.slice (some ⟨g,0,none⟩) (L+1) cap)∧w'.cell? ⟨g,0,none⟩=some (.pointer (some ⟨k0,0,none⟩))∧Hid (Add w w')) (by kernel_rfl) ⟨q0,c5',g0',(za HA).drew⟩ (fun hHeld=>?_)
 refine tka 0 15 rfl ?_
 refine tka 1 16 rfl ?_
 refine tka 2 17 rfl ?_
 refine tka 3 18 rfl ?_
 refine tka 4 19 rfl ?_
 refine tka 5 20 rfl ?_
 refine tka 6 21 rfl ?_
 simp only[sA,sB,sC]
 refine wpAnyH_ready (rs:=[7]) (by kernel_rfl) (by simp) ?_
 refine AllReadyH.cons (o:={ dst:=some 22,op:=_,type:=_,pos:=_,after:=_,guard:=_ }) rfl (fun K hK=>?_) AllReadyH.nil
 refine zm (by kernel_rfl) (by simp[Act.eval,ent0,go_sem]) ((za HC0 _ (za hHeld.2.2.2)).mono ?_)
 rintro e wc0 ⟨rfl,hac0⟩
 refine hK.out _ _ ⟨hac0.cellk hHeld.1,hac0.cellk hHeld.2.1,hac0.cellk hHeld.2.2.1,(za hHeld.2.2.2).tr hac0⟩ (fun hHeld7=>?_)
 clear hK K
 simp only[Act.put,sA,sB,sC]
 refine tkb 8 23 rfl ?_
 refine tkb 9 24 rfl ?_
 refine tka 10 4 rfl ?_
 simp only[sA,sB,sC]
 refine wpAnyH_done (by kernel_rfl) ?_ _
 go_wp2_with fail
 go_ret
 rw[za HX]
 exact⟨rfl,(za hHeld7.2.2.2)⟩
theorem anl {R:Wr} {f D:Nat} (hW:WB R f D) {w:World} (hg:SG w) {b d:Nat} {t:Tree} (hn:Nd w b t) (hx:Wx t) (hm:t.many≤f+1) (hd:d+1≤D) {c:Tree} {l:List Tree} (ek:t.kids=c :: l) (hv:vK c) (h42:c.kind≠42) :
  Calls prog 249 #[.agg #[.int .i64 d],.pointer (some ⟨b,0,none⟩)] w fun e w'=>e=.returned (.string (adp R d t))∧Add w w':=by
 obtain⟨g,cap,k0,hcap,hmx,c5,g0,n0,hrest⟩:=hn.one ek
 have oc:=adc hx hm (k:=c) (by rw[ek];simp) hv
 obtain⟨L,hL⟩:∃L,l.length=L:=⟨_,rfl⟩
 have c5:w.cell? ⟨b,5,none⟩=some (.slice (some ⟨g,0,none⟩) (L+1) cap):=by rw[←hL];exact c5
 obtain⟨ks0,v0⟩:=n0.view
 have z0:=v0.c0
 have HC0:=zb fun (w1:World) (ha:Add w w1)=>aj6 hW (hg.add ha) (d:=d) (hn.add ha) hx hm hd ek hv
 have ha0:=qE w d
 have q0:=qD w d
 have c5':=ha0.cellk c5
 have g0':=ha0.cellk g0
 have z0':=ha0.cellk z0
 have HX:=zb (show adp R d t=zu R d 8 (kid t 0) by unfold adp;rw[aa3 ek,if_neg h42])
 have h42':((c.kind:Int)==42)=false:=by rw[beq_eq_false_iff_ne];omega
 have h42b:¬(c.kind:Int)=42:=by omega
 have HA:=zb ha0
 clear hn hx hm hd hg hW n0 hrest oc hL c5 g0 z0 v0 ha0
 generalize zu R d 8 (kid t 0)=X0 at *
 go_enter func249,ntmps249
 go_wp2_with fail
 refine(za HC0 _ (za HA)).mono ?_
 rintro e wc0 ⟨rfl,hac0⟩
 have HAC0:=zb ((za HA).tr hac0)
 clear hac0
 go_wp2_with fail
 go_ret
 rw[za HX]
 exact⟨rfl,za HAC0⟩
theorem amh {R:Wr} {f D:Nat} (hW:WB R f D) {w:World} (hg:SG w) {b d:Nat} {t:Tree} (hn:Nd w b t) (hx:Wx t) (hm:t.many≤f+1) (hd:d+1≤D) (ek:t.kids=[]) :
  Calls prog 135 #[.agg #[.int .i64 d],.pointer (some ⟨b,0,none⟩)] w fun e w'=>e=.returned (.string (ahb R d t))∧Add w w':=by
 obtain⟨ks,hv⟩:=hn.view
 obtain⟨g0,cap0,e1,_,_,_⟩:=hv.kids
 have c5:=hv.c5
 rw[e1,ek] at c5
 have c5:w.cell? ⟨b,5,none⟩=some (.slice g0 0 cap0):=c5
 have ha0:=qE w d
 have q0:=qD w d
 have c5':=ha0.cellk c5
 have HX:=zb (show ahb R d t=⟨#[114,101,116,117,114,110,59]⟩ by unfold ahb;rw[if_pos (by rw[ek];rfl)])
 have HA:=zb ha0
 clear hn hx hm hd hg hW c5 hv e1 ha0
 go_enter func135,ntmps135
 go_wp2_with fail
 go_ret
 rw[za HX]
 exact⟨rfl,za HA⟩
theorem anm {R:Wr} {f D:Nat} (hW:WB R f D) {w:World} (hg:SG w) {b d:Nat} {t:Tree} (hn:Nd w b t) (hx:Wx t) (hm:t.many≤f+1) (hd:d+1≤D) {c:Tree} {l:List Tree} (ek:t.kids=c :: l) (hv:vK c) :
  Calls prog 135 #[.agg #[.int .i64 d],.pointer (some ⟨b,0,none⟩)] w fun e w'=>e=.returned (.string (ahb R d t))∧Add w w':=by
 obtain⟨g,cap,k0,hcap,hmx,c5,g0,n0,hrest⟩:=hn.one ek
 have oc:=adc hx hm (k:=c) (by rw[ek];simp) hv
 obtain⟨L,hL⟩:∃L,l.length=L:=⟨_,rfl⟩
 have c5:w.cell? ⟨b,5,none⟩=some (.slice (some ⟨g,0,none⟩) (L+1) cap):=by rw[←hL];exact c5
 have HC0:=zb fun (w1:World) (ha:Add w w1)=>ae4 hW (hg.add ha) (d:=d) (n0.add ha) oc.1 oc.2.1 oc.2.2 (Nat.le_of_succ_le hd)
 have hz0:=ads hW hx hm hd (k:=c) (by rw[ek];simp) hv 1
 have hL0:(((L:Int)+1)==0)=false:=by rw[beq_eq_false_iff_ne];omega
 have hL2:¬((L:Int)+1)=0:=by omega
 have ha0:=qE w d
 have q0:=qD w d
 have c5':=ha0.cellk c5
 have g0':=ha0.cellk g0
 have HX:=zb (show ahb R d t=((⟨#[114,101,116,117,114,110,32]⟩++zu R d 1 c)++⟨#[59]⟩) by unfold ahb;rw[aa3 ek,if_neg (by rw[ek];simp)])
 have HA:=zb ha0
 clear hn hx hm hd hg hW n0 hrest oc hL c5 g0 ha0
 generalize zu R d 1 c=X0 at *
 go_enter func135,ntmps135
 go_wp2_with fail
 generalize w.alloc (.cells #[.int .i64 d] 89)=wb at *
 have ent0:∀w:World,Sem.run prog (callFunc 131 #[.agg #[.int .i64 d],.pointer (some ⟨k0,0,none⟩)]) w=.ok (.enter 131 #[.agg #[.int .i64 d],.pointer (some ⟨k0,0,none⟩)]) w:=fun _=>by kernel_rfl
 refine wp_region_held_drew (S:=fun w'=>w'.cell? ⟨w.heap.size,0,none⟩=some (.int .i64 d)∧w'.cell? ⟨b,5,none⟩=some (.slice (some ⟨g,0,none⟩) (L+1) cap)∧w'.cell? ⟨g,0,none⟩=some (.pointer (some ⟨k0,0,none⟩))∧Hid (Add w w')) (by kernel_rfl) ⟨q0,c5',g0',(za HA).drew⟩ (fun hHeld=>?_)
 refine tka 0 11 rfl ?_
 refine tka 1 12 rfl ?_
 refine tka 2 13 rfl ?_
 refine tka 3 14 rfl ?_
 refine tka 4 15 rfl ?_
 refine tka 5 16 rfl ?_
 refine tka 6 17 rfl ?_
 simp only[sA,sB,sC]
 refine wpAnyH_ready (rs:=[7]) (by kernel_rfl) (by simp) ?_
 refine AllReadyH.cons (o:={ dst:=some 18,op:=_,type:=_,pos:=_,after:=_,guard:=_ }) rfl (fun K hK=>?_) AllReadyH.nil
 refine zm (by kernel_rfl) (by simp[Act.eval,ent0,go_sem]) ((za HC0 _ (za hHeld.2.2.2)).mono ?_)
 rintro e wc0 ⟨rfl,hac0⟩
 refine hK.out _ _ ⟨hac0.cellk hHeld.1,hac0.cellk hHeld.2.1,hac0.cellk hHeld.2.2.1,(za hHeld.2.2.2).tr hac0⟩ (fun hHeld7=>?_)
 clear hK K
 simp only[Act.put,sA,sB,sC]
 refine tkb 8 19 rfl ?_
 refine tkb 9 20 rfl ?_
 refine tka 10 4 rfl ?_
 simp only[sA,sB,sC]
 refine wpAnyH_done (by kernel_rfl) ?_ _
 go_wp2_with fail
 go_ret
 rw[za HX]
 exact⟨rfl,(za hHeld7.2.2.2)⟩
theorem aqr {R:Wr} {f D:Nat} (hW:WB R f D) {w:World} (hg:SG w) {b d:Nat} {t:Tree} (hn:Nd w b t) (hx:Wx t) (hm:t.many≤f+1) (hd:d+1≤D) {c bl:Tree} (ek:t.kids=[c,bl]) (hv:vK c) (h7:bl.kind=7) :
  Calls prog 133 #[.agg #[.int .i64 d],.pointer (some ⟨b,0,none⟩)] w fun e w'=>e=.returned (.string (xIf R d t))∧Add w w':=by
 obtain⟨g,cap,k0,hcap,hmx,c5,g0,n0,hrest⟩:=hn.one ek
 have HC0:=zb fun (w1:World) (ha:Add w w1)=>aj5 hW (hg.add ha) (d:=d) (hn.add ha) hx hm hd ek hv h7
 have hzg:(adi R d t).size≤100000000:=by
  have a1:=ads hW hx hm hd (k:=c) (by rw[ek];simp) hv 1
  have a2:=ai1 hW hx hm hd (p:=bl) (by rw[ek];simp) h7
  unfold adi
  rw[aa3 ek,aeu ek]
  simp only[ByteArray.size_append,bsz,List.size_toArray,List.length_cons,List.length_nil]
  omega
 have c5:w.cell? ⟨b,5,none⟩=some (.slice (some ⟨g,0,none⟩) 2 cap):=c5
 have ha0:=qE w d
 have q0:=qD w d
 have c5':=ha0.cellk c5
 have HX:=zb (show xIf R d t=(⟨#[105,102,32]⟩++adi R d t) by unfold xIf;rw[if_neg (by rw[ek];simp)])
 have HA:=zb ha0
 clear hn hx hm hd hg hW n0 hrest c5 g0 ha0
 generalize adi R d t=X0 at *
 go_enter func133,ntmps133
 go_wp2_with fail
 refine(za HC0 _ (za HA)).mono ?_
 rintro e wc0 ⟨rfl,hac0⟩
 have HAC0:=zb ((za HA).tr hac0)
 have c6:=hac0.cellk c5'
 clear hac0
 go_wp2_with fail
 go_ret
 rw[za HX]
 exact⟨rfl,za HAC0⟩
theorem ann {R:Wr} {f D:Nat} (hW:WB R f D) {w:World} (hg:SG w) {b d:Nat} {t:Tree} (hn:Nd w b t) (hx:Wx t) (hm:t.many≤f+1) (hd:d+1≤D) {c bl el:Tree} (ek:t.kids=[c,bl,el]) (hv:vK c) (h7:bl.kind=7) (he:el.kind=7) :
  Calls prog 133 #[.agg #[.int .i64 d],.pointer (some ⟨b,0,none⟩)] w fun e w'=>e=.returned (.string (xIf R d t))∧Add w w':=by
 obtain⟨g,cap,k0,hcap,hmx,c5,g0,n0,hrest⟩:=hn.one ek
 have HC0:=zb fun (w1:World) (ha:Add w w1)=>aj5 hW (hg.add ha) (d:=d) (hn.add ha) hx hm hd ek hv h7
 have hzg:(adi R d t).size≤100000000:=by
  have a1:=ads hW hx hm hd (k:=c) (by rw[ek];simp) hv 1
  have a2:=ai1 hW hx hm hd (p:=bl) (by rw[ek];simp) h7
  unfold adi
  rw[aa3 ek,aeu ek]
  simp only[ByteArray.size_append,bsz,List.size_toArray,List.length_cons,List.length_nil]
  omega
 have c5:w.cell? ⟨b,5,none⟩=some (.slice (some ⟨g,0,none⟩) 3 cap):=c5
 obtain⟨k2,g2,n2⟩:=hrest 1 _ rfl
 obtain⟨vb,b5,rb⟩:=n2.kids
 have hd3:d≤3000:=by have:=hW.D;omega
 have HC1:=zb fun (w1:World) (_:Add w w1)=>aiz d hd3 w1
 have HC2:=zb fun (w1:World) (ha:Add w w1)=>agh hW (hg.add ha) (d:=d) (rb.add ha) (ahk hx hm (by rw[ek];simp) he) (aeb hW.f hm (by rw[ek];simp)) hd
 have hz1:(xIn d).size≤6000:=by rw[aeh];omega
 have hz2:=ai1 hW hx hm hd (p:=el) (by rw[ek];simp) he
 have ha0:=qE w d
 have q0:=qD w d
 have c5':=ha0.cellk c5
 have g2':=ha0.cellk g2
 have b5':=ha0.cellk b5
 have HX:=zb (show xIf R d t=((⟨#[105,102,32]⟩++adi R d t)++(((⟨#[10]⟩++xIn d)++⟨#[101,108,115,101,32]⟩)++aby R d el.kids)) by unfold xIf;rw[kid2 ek,if_pos (by rw[ek];simp)])
 have HA:=zb ha0
 clear hn hx hm hd hg hW n0 n2 rb hrest c5 g0 g2 b5 ha0
 generalize adi R d t=X0 at *
 generalize xIn d=X1 at *
 generalize aby R d el.kids=X2 at *
 go_enter func133,ntmps133
 go_wp2_with fail
 refine(za HC0 _ (za HA)).mono ?_
 rintro e wc0 ⟨rfl,hac0⟩
 have HAC0:=zb ((za HA).tr hac0)
 have y0:=hac0.cellk q0
 have y1:=hac0.cellk c5'
 have y2:=hac0.cellk g2'
 have y3:=hac0.cellk b5'
 clear hac0
 clear q0 c5' g2' b5'
 go_wp2_with fail
 have ent0:∀w:World,Sem.run prog (callFunc 78 #[.agg #[.int .i64 d]]) w=.ok (.enter 78 #[.agg #[.int .i64 d]]) w:=fun _=>by kernel_rfl
 have ent1:∀w:World,Sem.run prog (callFunc 129 #[.agg #[.int .i64 d],vb]) w=.ok (.enter 129 #[.agg #[.int .i64 d],vb]) w:=fun _=>by kernel_rfl
 refine wp_region_held_drew (S:=fun w'=>w'.cell? ⟨w.heap.size,0,none⟩=some (.int .i64 d)∧w'.cell? ⟨b,5,none⟩=some (.slice (some ⟨g,0,none⟩) 3 cap)∧w'.cell? ⟨g,2,none⟩=some (.pointer (some ⟨k2,0,none⟩))∧w'.cell? ⟨k2,5,none⟩=some (vb)∧Hid (Add w w')) (by kernel_rfl) ⟨y0,y1,y2,y3,(za HAC0).drew⟩ (fun hHeld=>?_)
 refine tka 0 16 rfl ?_
 refine tka 1 17 rfl ?_
 refine tka 5 21 rfl ?_
 refine tka 6 22 rfl ?_
 refine tka 7 23 rfl ?_
 refine tka 8 24 rfl ?_
 refine tka 9 25 rfl ?_
 refine tka 10 26 rfl ?_
 refine tka 11 27 rfl ?_
 refine tka 12 28 rfl ?_
 simp only[sA,sB,sC]
 refine tka 13 29 rfl ?_
 refine tka 14 30 rfl ?_
 simp only[sA,sB,sC]
 refine wpAnyH_ready (rs:=[2]) (by kernel_rfl) (by simp) ?_
 refine AllReadyH.cons (o:={ dst:=some 18,op:=_,type:=_,pos:=_,after:=_,guard:=_ }) rfl (fun K hK=>?_) AllReadyH.nil
 refine zm (by kernel_rfl) (by simp[Act.eval,ent0,go_sem]) ((za HC1 _ (za hHeld.2.2.2.2)).mono ?_)
 rintro e wc0 ⟨rfl,hac0⟩
 refine hK.out _ _ ⟨hac0.cellk hHeld.1,hac0.cellk hHeld.2.1,hac0.cellk hHeld.2.2.1,hac0.cellk hHeld.2.2.2.1,(za hHeld.2.2.2.2).tr hac0⟩ (fun hHeld2=>?_)
 clear hK K
 simp only[Act.put,sA,sB,sC]
 refine tkb 3 19 rfl ?_
 refine tkb 4 20 rfl ?_
 simp only[sA,sB,sC]
 refine wpAnyH_ready (rs:=[15]) (by kernel_rfl) (by simp) ?_
 refine AllReadyH.cons (o:={ dst:=some 31,op:=_,type:=_,pos:=_,after:=_,guard:=_ }) rfl (fun K hK=>?_) AllReadyH.nil
 refine zm (by kernel_rfl) (by simp[Act.eval,ent1,go_sem]) ((za HC2 _ (za hHeld2.2.2.2.2)).mono ?_)
 rintro e wc1 ⟨rfl,hac1⟩
 refine hK.out _ _ ⟨hac1.cellk hHeld2.1,hac1.cellk hHeld2.2.1,hac1.cellk hHeld2.2.2.1,hac1.cellk hHeld2.2.2.2.1,(za hHeld2.2.2.2.2).tr hac1⟩ (fun hHeld15=>?_)
 clear hK K
 simp only[Act.put,sA,sB,sC]
 refine tkb 16 32 rfl ?_
 refine tkb 17 33 rfl ?_
 refine tka 18 5 rfl ?_
 simp only[sA,sB,sC]
 refine wpAnyH_done (by kernel_rfl) ?_ _
 go_wp2_with fail
 go_ret
 rw[za HX]
 exact⟨rfl,(za hHeld15.2.2.2.2)⟩
section
open Go.RowKit Go.Sort
theorem azk (u : Nat) (hu64 : u < 18446744073709551616) (w : World) (htab : Lib.TabIs prog w "internal/strconv.uint64pow10" .u64 Lib.pow10Tab) :
  Calls prog 194 #[.int .u64 u,.int .i64 10] w fun e w'=>e=.returned (.string ⟨(Lib.decDigits u).toArray⟩)∧Add w w':=by
 by_cases h:u<100
 ·have h1:(u:Int)<100:=by omega
  have hb:decide ((u:Int)<100)=true:=by simp;omega
  have HS:=zb (Tryz.internal_strconv_small u h w)
  go_enter func194,ntmps194
  go_wp2_with fail
  refine(za HS).mono ?_
  rintro e w1 ⟨rfl,rfl⟩
  go_wp2_with fail
  go_ret
  exact⟨rfl,Add.refl _⟩
 ·have hu1:1≤u:=by omega
  have hnd20:Lib.nDigits u≤20:=by have:=Lib.numDigits_eq u hu1 hu64;split at this <;> omega
  have hal:prog.arrayLen 249=24:=by simp[Program.arrayLen,underlying249]
  have hsl:∀W,(Instr.sliceAt 249 (.pointer (some ⟨w.heap.size,0,none⟩)) none (some (.int .i64 (Lib.nDigits u:Int))) none).run prog W=.ok (.slice (some ⟨w.heap.size,0,none⟩) (Lib.nDigits u) 24) W:=fun W=>by
   rw[run_sliceAt_array_h W 249 ⟨w.heap.size,0,none⟩ (by simp[Program.arrayLen,Program.elem,underlying249]) .i64 (Lib.nDigits u:Int) (by omega) (by rw[hal];omega)]
   go_simp
  have hH0:=Lib.holds_zero0 w 249 (Lib.nDigits u) (by omega)
  have hfmt:=Tryz.internal_strconv_formatBase10 w.heap.size 0 24 u (Array.replicate (Lib.nDigits u) 0) (w.alloc (.cells Lib.zeros24 249)) hH0 (by rw[Array.size_replicate];exact Lib.lt_pow_nDigits u) hu64 (by rw[Array.size_replicate];omega)
  rw[Array.size_replicate] at hfmt
  have HH0:=zb hH0
  have HFM:=zb hfmt
  have HND:=zb fun w1 ht=>Tryz.internal_strconv_numDigits u hu1 hu64 w1 ht
  have HTB:=zb (Lib.tabIs_alloc htab (.cells Lib.zeros24 249))
  have iu:(100:Int)≤(u:Int):=by omega
  clear hH0 hal hfmt htab
  go_enter func194,ntmps194
  go_wp2_with fail
  refine(za HND _ (za HTB)).mono ?_
  rintro e w1 ⟨rfl,rfl⟩
  go_wp2_with fail
  refine(za HFM).mono ?_
  rintro e w' ⟨rfl,k,v',dk,rfl,hF⟩
  have hcv:(convert 136 9 (.slice (some ⟨w.heap.size,0,none⟩) (Lib.nDigits u) 24)).run prog ((putRow (fun (b:UInt8)=>Value.int .u8 (b.toNat:Int)) (w.alloc (.cells Lib.zeros24 249)) w.heap.size 0 dk).drewN k)=.ok (.string ⟨(Lib.decDigits u).toArray⟩) ((putRow (fun (b:UInt8)=>Value.int .u8 (b.toNat:Int)) (w.alloc (.cells Lib.zeros24 249)) w.heap.size 0 dk).drewN k):=by
   have h:=run_convert_bytes_back (P:=prog) ((putRow (fun (b:UInt8)=>Value.int .u8 (b.toNat:Int)) (w.alloc (.cells Lib.zeros24 249)) w.heap.size 0 dk).drewN k) 136 9 5 ⟨w.heap.size,0,none⟩ 24 (Lib.decDigits u) underlying136 underlying5 underlying9 (fun j hj=>by
    rw[Lib.row_is_numeral hF j hj,Lib.add_plain,World.cell?_drewN]
    exact cell?_putRow (fun (b:UInt8)=>Value.int .u8 (b.toNat:Int)) _ w.heap.size 0 _ dk (za HH0) (by rw[hF.size,Array.size_replicate]) j (by rw[hF.size];rw[Lib.decDigits_length] at hj;exact hj))
   rw[Lib.decDigits_length] at h
   exact h
  have HAD:Hid (Add w ((putRow (fun (b:UInt8)=>Value.int .u8 (b.toNat:Int)) (w.alloc (.cells Lib.zeros24 249)) w.heap.size 0 dk).drewN k)):=by
   obtain⟨os,eo⟩:=Lib.fin_at w (.cells Lib.zeros24 249) dk k 0
   rw[eo]
   exact aim (Lib.below_grow w.heap.size w (Nat.le_refl _) k os) (Nat.le_refl _)
  clear HH0 HFM HND HTB
  go_wp2_with fail
  go_ret
  exact⟨rfl,za HAD⟩
theorem ano (n : Nat) (h : n < 18446744073709551616) (w : World) (htab : Lib.TabIs prog w "internal/strconv.uint64pow10" .u64 Lib.pow10Tab) :
  Calls prog 139 #[.int .u64 n,.int .i64 10] w fun e w'=>e=.returned (.string ⟨(Lib.decDigits n).toArray⟩)∧Add w w':=by
 have HS:=zb (azk n h w htab)
 clear htab
 go_enter func139,ntmps139
 go_wp2_with fail
 refine(za HS).mono ?_
 rintro e w1 ⟨rfl,ha⟩
 have HA:=zb ha
 clear ha
 go_wp2_with fail
 go_ret
 exact⟨rfl,za HA⟩
end
end Go.Proofs.YtndgajlidckcdaaGreatDoor
